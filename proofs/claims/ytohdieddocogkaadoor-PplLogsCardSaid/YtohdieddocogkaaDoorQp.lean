/-
  ppl: calls that came in, the shelf beneath a log.
  Conditions: each theorem's own.
-/
import Derived.Test.YtohdieddocogkaaDoorQo
import Derived.ChangeSlices
namespace Go.Proofs.YtohdieddocogkaaDoor.Sh
open Go.ChangeShapes Go.WideShapes Go.ChangeAt Go.RowKit Go.Maps

section
variable {H : Type} {enc : TypeId × Value → H} {W : World}
theorem cellsInt : Tryd.prog.cellsOf 3 = 1 := by kernel_rfl
theorem cellsInts : Tryd.prog.cellsOf 98 = 1 := by kernel_rfl
theorem cellsU8 : Tryd.prog.cellsOf 5 = 1 := by kernel_rfl
theorem cellsIntss : Tryd.prog.cellsOf 55 = 1 := by kernel_rfl
theorem cells_get {base n : Nat} {a : Addr} {xs : List Value} (h : W.cells? base a n = some xs) : xs.length = n ∧ ∀ k, k < n → ∃ v, xs[k]? = some v ∧ W.cell? (a.add k) = some v := by
  unfold World.cells? at h
  split at h
  · have hl : xs.length = n := by simpa using mapM_some_length h
    refine ⟨hl, fun k hk => ?_⟩
    have := mapM_some_get h k k (by simp [hk])
    rw [List.getElem?_eq_getElem (by omega)] at this
    exact ⟨_, List.getElem?_eq_getElem (by omega), this⟩
  · cases h
theorem int_of {m : Nat} {v : Value} {y : DataW H × List MemPlace} (h : DataW.trod enc Tryd.prog W 0 (fun _ => true) true m 3 [v] = some y) : ∃ z : Int, v = .int .i64 z ∧ -9223372036854775808 ≤ z ∧ z ≤ 9223372036854775807 := by
  cases m with
  | zero => simp [DataW.trod] at h
  | succ m =>
    simp only [DataW.trod, Tryd.underlying3] at h
    cases v <;> simp at h
    rename_i k b
    obtain ⟨⟨rfl, hw⟩, _⟩ := h
    exact ⟨b, rfl, bounds_i64 hw⟩
theorem u8_of {m : Nat} {v : Value} {y : DataW H × List MemPlace} (h : DataW.trod enc Tryd.prog W 0 (fun _ => true) true m 5 [v] = some y) : ∃ z : Nat, v = .int .u8 (z : Int) ∧ z < 256 := by
  cases m with
  | zero => simp [DataW.trod] at h
  | succ m =>
    simp only [DataW.trod, Tryd.underlying5] at h
    cases v <;> simp at h
    rename_i k b
    obtain ⟨⟨rfl, hw⟩, _⟩ := h
    have := bounds_u8 hw
    exact ⟨b.toNat, by rw [Int.toNat_of_nonneg this.1], by omega⟩
/-- A slice that came in, of elements of one cell. -/
theorem each_in {t e : TypeId} {fuel n c : Nat} {A : Option Addr} {x : DataW H × List MemPlace} (ht : Tryd.prog.underlying t = some (.slice e)) (hc : Tryd.prog.cellsOf e = 1)
    (h : DataW.trod enc Tryd.prog W 0 (fun _ => true) true fuel t [.slice A n c] = some x) :
    (A = none ∧ n = 0) ∨ ∃ (ad : Addr) (m : Nat), A = some ad ∧ n ≤ 9223372036854775807 ∧ ∀ i, i < n → ∃ v y, W.cell? (ad.add i) = some v ∧ DataW.trod enc Tryd.prog W 0 (fun _ => true) true m e [v] = some y := by
  rcases DataW.trod_slice ht h with ⟨h0, hx⟩ | ⟨a, len, cap, elems, rest, m, _, h0, hx, _, hl, hm, hlen, hel, _⟩
  · simp only [List.cons.injEq, Value.slice.injEq, and_true] at h0
    obtain ⟨rfl, rfl, rfl⟩ := h0
    exact .inl ⟨rfl, rfl⟩
  · simp only [List.cons.injEq, Value.slice.injEq, and_true] at h0
    obtain ⟨rfl, rfl, rfl⟩ := h0
    refine .inr ⟨a, m, rfl, by unfold maxLen at hm; omega, fun i hi => ?_⟩
    have h1 := hel i hi
    rw [hc, Nat.mul_one, List.getElem?_eq_getElem (by omega), Option.bind_eq_some_iff] at h1
    obtain ⟨cs, hcs, hy⟩ := h1
    obtain ⟨hl1, hg⟩ := cells_get hcs
    obtain ⟨v, hv, hcv⟩ := hg 0 (by decide)
    have e : cs = [v] := by
      match cs, hl1, hv with
      | [u], _, hv => simpa using hv
    subst e
    have e2 : (a.add i).add 0 = a.add i := by unfold Addr.add; simp
    rw [e2] at hcv
    exact ⟨v, _, hcv, hy⟩
theorem ints_in {fuel n c : Nat} {A : Option Addr} {x : DataW H × List MemPlace} (h : DataW.trod enc Tryd.prog W 0 (fun _ => true) true fuel 98 [.slice A n c] = some x) :
    ∃ l : List Int, n ≤ 9223372036854775807 ∧ Reads W W.heap.size A n (ints l) ∧ (0 < n → ∀ a, A = some a → a.block < W.heap.size) := by
  rcases each_in Tryd.underlying98 cellsInt h with ⟨rfl, rfl⟩ | ⟨ad, m, rfl, hn, hel⟩
  · exact ⟨[], by decide, Reads.none_, fun h => absurd h (by decide)⟩
  · have hz : ∀ i, ∃ z : Int, i < n → W.cell? (ad.add i) = some (.int .i64 z) := by
      intro i
      by_cases hi : i < n
      · obtain ⟨v, y, hv, hy⟩ := hel i hi
        obtain ⟨z, rfl, _⟩ := int_of hy
        exact ⟨z, fun _ => hv⟩
      · exact ⟨0, fun h => absurd h hi⟩
    obtain ⟨f, hf⟩ := Classical.axiomOfChoice hz
    have hb : 0 < n → ad.block < W.heap.size := fun h0 => by
      have := World.block_lt_of_cell? W _ (hf 0 h0)
      rwa [block_of_add] at this
    refine ⟨(List.range n).map f, hn, ⟨by simp [ints], fun h0 => ⟨ad, rfl, hb h0, fun j u hu => ?_⟩⟩, fun h0 a ha => by injection ha with ha; subst ha; exact hb h0⟩
    have hj : j < n := by
      rcases Nat.lt_or_ge j n with h | h
      · exact h
      · rw [List.getElem?_eq_none (by simpa [ints] using h)] at hu; cases hu
    rw [hf j hj, ← hu]
    simp [ints, hj]
theorem keep_in {fuel n c : Nat} {A : Option Addr} {x : DataW H × List MemPlace} (h : DataW.trod enc Tryd.prog W 0 (fun _ => true) true fuel 55 [.slice A n c] = some x) :
    ∃ ks : List (List Int), n ≤ 9223372036854775807 ∧ KeepIs W (Old W) A n ks := by
  rcases each_in Tryd.underlying55 cellsInts h with ⟨rfl, rfl⟩ | ⟨ad, m, rfl, hn, hel⟩
  · exact ⟨[], by decide, rfl, fun h => absurd h (by decide)⟩
  · have hz : ∀ i, ∃ l : List Int, i < n → ∃ A' m c, W.cell? (ad.add i) = some (.slice A' m c) ∧ m ≤ 9223372036854775807 ∧ Reads W W.heap.size A' m (ints l) ∧ (0 < m → ∀ a', A' = some a' → Old W a'.block) := by
      intro i
      by_cases hi : i < n
      · obtain ⟨v, y, hv, hy⟩ := hel i hi
        obtain ⟨A', n', c', rfl⟩ : ∃ A' n' c', v = .slice A' n' c' := by
          rcases DataW.trod_slice Tryd.underlying98 hy with ⟨h0, _⟩ | ⟨a, len, cap, _, _, _, _, h0, _⟩
          · simp only [List.cons.injEq, and_true] at h0; exact ⟨_, _, _, h0⟩
          · simp only [List.cons.injEq, and_true] at h0; exact ⟨_, _, _, h0⟩
        obtain ⟨l, h1, h2, h3⟩ := ints_in hy
        exact ⟨l, fun _ => ⟨A', n', c', hv, h1, h2, h3⟩⟩
      · exact ⟨[], fun h => absurd h hi⟩
    obtain ⟨f, hf⟩ := Classical.axiomOfChoice hz
    refine ⟨(List.range n).map f, hn, by simp, fun h0 => ⟨ad, rfl, ?_, fun j hj => ?_⟩⟩
    · obtain ⟨_, _, _, h1, _⟩ := hf 0 h0
      have := World.block_lt_of_cell? W _ h1
      rwa [block_of_add] at this
    · have e : ((List.range n).map f).getD j [] = f j := by simp [List.getD, hj]
      rw [e]
      exact hf j hj
end
end Go.Proofs.YtohdieddocogkaaDoor.Sh
namespace Go.Proofs.YtohdieddocogkaaDoor.U
open Go.ChangeShapes Go.WideShapes Go.ChangeAt Go.RowKit Go.Maps

/-! ### kept writes that came in -/
abbrev KeepIs := @Sh.KeepIs
abbrev Old := @Sh.Old
section
variable {H : Type} {enc : TypeId × Value → H} {W : World}
theorem keep_in {fuel n c : Nat} {A : Option Addr} {x : DataW H × List MemPlace} (h : DataW.trod enc Tryd.prog W 0 (fun _ => true) true fuel 55 [.slice A n c] = some x) :
    ∃ ks : List (List Int), n ≤ 9223372036854775807 ∧ KeepIs W (Old W) A n ks := Sh.keep_in h
/-! ### calls that came in -/
theorem cellsOp7 : Tryd.prog.cellsOf 48 = 5 := by kernel_rfl
structure Op7 where
  kind : Int
  slot : Int
  r : RecV
def I64 (z : Int) : Prop := -9223372036854775808 ≤ z ∧ z ≤ 9223372036854775807
/-- Five cells that hold a call. -/
structure Op7Is (W : World) (b o : Nat) (v : Op7) : Prop where
  c0 : W.cell? ⟨b, o, none⟩ = some (.int .i64 v.kind)
  c1 : W.cell? ⟨b, o + 1, none⟩ = some (.int .i64 v.slot)
  c2 : W.cell? ⟨b, o + 2, none⟩ = some (.int .i64 v.r.s)
  c3 : W.cell? ⟨b, o + 3, none⟩ = some (.int .i64 v.r.q)
  c4 : W.cell? ⟨b, o + 4, none⟩ = some (.slice v.r.A v.r.n v.r.c)
  b0 : I64 v.kind
  b1 : I64 v.slot
  rc : RecOk W v.r
def Ops7 (W : World) (A : Option Addr) (n : Nat) (f : Nat → Op7) : Prop := n ≤ 9223372036854775807 ∧ (0 < n → ∃ b off, A = some ⟨b, off, none⟩ ∧ b < W.heap.size ∧ ∀ i, i < n → Op7Is W b (off + i * 5) (f i))
set_option maxRecDepth 20000 in
theorem op7_in {b o m : Nat} {cs : List Value} {y : DataW H × List MemPlace} (hl : cs.length = 5) (hc : ∀ k, k < 5 → ∃ v, cs[k]? = some v ∧ W.cell? ⟨b, o + k, none⟩ = some v) (h : DataW.trod enc Tryd.prog W 0 (fun _ => true) true m 48 cs = some y) :
    ∃ v : Op7, Op7Is W b o v := by
  obtain ⟨xs, k, rfl, rfl, _, hxs, hf⟩ := DataW.trod_struct Tryd.underlying48 h
  match cs, hl, hc with
  | [v0, v1, v2, v3, v4], _, hc =>
    have hs : xs.length = 3 := hxs
    have f0 := hf 0 _ rfl
    have f1 := hf 1 _ rfl
    have f2 := hf 2 _ rfl
    match xs, hs with
    | [z0, z1, z2], _ =>
      obtain ⟨kind, rfl, a0⟩ := int_of (v := v0) (show DataW.trod enc Tryd.prog W 0 (fun _ => true) true k 3 [v0] = some z0 from f0)
      obtain ⟨slot, rfl, a1⟩ := int_of (v := v1) (show DataW.trod enc Tryd.prog W 0 (fun _ => true) true k 3 [v1] = some z1 from f1)
      obtain ⟨z, hz, hok, _⟩ := rec_val (cs := [v2, v3, v4]) rfl (show DataW.trod enc Tryd.prog W 0 (fun _ => true) true k 24 [v2, v3, v4] = some z2 from f2)
      simp only [List.cons.injEq, and_true] at hz
      obtain ⟨rfl, rfl, rfl⟩ := hz
      have g : ∀ i v, i < 5 → ([.int .i64 kind, .int .i64 slot, .int .i64 z.s, .int .i64 z.q, .slice z.A z.n z.c] : List Value)[i]? = some v → W.cell? ⟨b, o + i, none⟩ = some v := fun i v hi hv => by
        obtain ⟨u, h1, h2⟩ := hc i hi
        rw [hv] at h1
        injection h1 with h1
        rw [h1]
        exact h2
      exact ⟨⟨kind, slot, z⟩, g 0 _ (by decide) rfl, g 1 _ (by decide) rfl, g 2 _ (by decide) rfl, g 3 _ (by decide) rfl, g 4 _ (by decide) rfl, a0, a1, hok⟩
theorem ops7_in {fuel n c : Nat} {A : Option Addr} {x : DataW H × List MemPlace} (h : DataW.trod enc Tryd.prog W 0 (fun _ => true) true fuel 35 [.slice A n c] = some x) : ∃ f, Ops7 W A n f := by
  rcases DataW.trod_slice Tryd.underlying35 h with ⟨h0, hx⟩ | ⟨a, len, cap, elems, rest, m, _, h0, hx, _, hl, hm, hlen, hel, _⟩
  · simp only [List.cons.injEq, Value.slice.injEq, and_true] at h0
    obtain ⟨rfl, rfl, rfl⟩ := h0
    exact ⟨fun _ => ⟨0, 0, ⟨0, 0, none, 0, 0, []⟩⟩, by decide, fun h => absurd h (by decide)⟩
  · simp only [List.cons.injEq, Value.slice.injEq, and_true] at h0
    obtain ⟨rfl, rfl, rfl⟩ := h0
    have hcs : ∀ i, i < n → ∃ cs y, cs.length = 5 ∧ (∀ k, k < 5 → ∃ v, cs[k]? = some v ∧ W.cell? ((a.add (i * 5)).add k) = some v) ∧ DataW.trod enc Tryd.prog W 0 (fun _ => true) true m 48 cs = some y := by
      intro i hi
      have h1 := hel i hi
      rw [cellsOp7, List.getElem?_eq_getElem (by omega), Option.bind_eq_some_iff] at h1
      obtain ⟨cs, hcs, hy⟩ := h1
      obtain ⟨hl1, hg⟩ := Sh.cells_get hcs
      exact ⟨cs, _, hl1, hg, hy⟩
    rcases Nat.eq_zero_or_pos n with h0 | h0
    · exact ⟨fun _ => ⟨0, 0, ⟨0, 0, none, 0, 0, []⟩⟩, by unfold maxLen at hm; omega, fun h => by omega⟩
    · obtain ⟨b, off, spot⟩ := a
      obtain ⟨cs, y, _, hg, _⟩ := hcs 0 h0
      obtain ⟨v, _, hv⟩ := hg 0 (by decide)
      have hspot : spot = none := by simpa [Addr.add] using World.cell?_spot hv
      subst hspot
      have hblt := World.block_lt_of_cell? W _ hv
      rw [block_of_add, block_of_add] at hblt
      have hz : ∀ i, ∃ v : Op7, i < n → Op7Is W b (off + i * 5) v := by
        intro i
        by_cases hi : i < n
        · obtain ⟨cs, y, hl5, hg, hy⟩ := hcs i hi
          obtain ⟨v, hv⟩ := op7_in (b := b) (o := off + i * 5) hl5 (fun k hk => by
            obtain ⟨v, h1, h2⟩ := hg k hk
            rw [add_of_add, add_plain, ← Nat.add_assoc] at h2
            exact ⟨v, h1, h2⟩) hy
          exact ⟨v, fun _ => hv⟩
        · exact ⟨⟨0, 0, ⟨0, 0, none, 0, 0, []⟩⟩, fun h => absurd h hi⟩
      obtain ⟨f, hf⟩ := Classical.axiomOfChoice hz
      exact ⟨f, by unfold maxLen at hm; omega, fun _ => ⟨b, off, rfl, hblt, hf⟩⟩
end
/-! ### what the calls leave, whatever is asked -/
section
variable {B : Nat} {W w w' : World} {g a p d n : Nat} {o : Int} {S S' : Sh.Sf} {F : Nat → Prop} {P P' : Cs}
theorem Lg.weaken {B' : Nat} {W' : World} (h : Lg B' W' w g a p d o S F n) (hB : B ≤ B') (hb : Below B W W') : Lg B W w g a p d o S F n :=
  ⟨⟨⟨h.dv.on.shelf, fun b hb => Nat.le_trans hB (h.dv.on.low b hb), hb.trans (h.dv.on.bel.mono hB), Nat.le_trans hB h.dv.on.size⟩, h.dv.dev, h.dv.apart, Nat.le_trans hB h.dv.low⟩, h.log, h.apart, Nat.le_trans hB h.low⟩
theorem RecOk.beside {z : RecV} (h : RecOk W z) (L : Lg W.heap.size W w g a p d o S F n) : (hn : z.n = 128) → Sh.Beside w (With F a) z.A z.l := fun hn => by
  have hr := h.rd
  rw [hn] at hr
  refine ⟨(hr.below L.dv.on.bel).more L.dv.on.bel.size, fun x hx e => ?_⟩
  obtain ⟨ad, ha, hl, _⟩ := hr.2 (by decide)
  rw [ha] at hx
  injection hx with hx
  subst hx
  have h1 : W.heap.size ≤ ad.block := e.elim (fun e => L.dv.on.low _ e) (fun e => by have := L.dv.low; rw [← e] at this; exact this)
  omega
theorem Neat.now' (hj : Jp S d o P) (hon : S.off = false) : P (vals (dk S d)) := (hj.neat hon).now
/-- A Put of whatever record into whatever slot. -/
theorem put_any (h : Lg W.heap.size W w g a p d o S F n) (hA : All W) (hj : Jp S d o P) (slot : Int) (hsl : I64 slot) (z : RecV) (hz : RecOk W z) (hn : n ≤ 8) (hb : 2 + 2 * n ≤ blk S.sectors)
    {m : Nat} (hL : ∀ k ∈ S.disks, k.waits.length ≤ m) (hm : m ≤ 900000) (hP : ∀ c, P c → P' c)
    (hC : ∀ k x t : Nat, slot = k → k < n → z.s = x → z.q = t → x < 1024 → t < 15 → z.l.length = 128 → ∀ v, P v → P' (upd v (3 + 2 * k) z.l) ∧ P' (upd (upd v (3 + 2 * k) z.l) (2 + 2 * k) (headL (numF x t (Nums.sum 0 z.l))))) :
    Calls Tryd.prog 20 #[.pointer (some ⟨g, 0, none⟩), .int .i64 slot, z.val] w fun e w' => (∃ y : Int, e = .returned (.int .i64 y)) ∧ ∃ o' S', LGoes W.heap.size W w w' g a p d o' S' F n ∧ Jp S' d o' P' ∧ S'.sectors = S.sectors ∧ ∀ k ∈ S'.disks, k.waits.length ≤ m + 4 := by
  have hlo : ∀ k ∈ S.disks, k.waits.length ≤ m + 4 := fun k hk => by have := hL k hk; omega
  unfold RecV.val
  by_cases hs : 0 ≤ slot ∧ slot < (n : Int)
  · obtain ⟨k, rfl⟩ := nat_of hs.1
    have hk : k < n := by omega
    have hAw : All w := hA.over h.dv.on.bel
    cases hmb : mayB z.s z.q z.n
    · refine (put_no z.s z.q z.A z.n z.c w h.log k hk z.l hz.sm ((hz.rd.below h.dv.on.bel).more h.dv.on.bel.size) hz.le hAw.tabs hAw.fld hmb).mono ?_
      rintro e w' ⟨rfl, hbl⟩
      exact ⟨⟨_, rfl⟩, o, S, h.here hbl, hj.more hP, rfl, hlo⟩
    · obtain ⟨hn1, h1, h2⟩ := (mayB_iff hz.bs hz.bq).1 hmb
      obtain ⟨x, hx⟩ := nat_of h1.1
      obtain ⟨t, ht⟩ := nat_of h2.1
      have hll : z.l.length = 128 := by rw [hz.rd.len, hn1]
      have hq := put_jp h hA.tabs (hA.tabs.size) hA.fld (hA.fld.size) hj k hk hn hb x t (by omega) (by omega) z.A z.c z.l ⟨hll, hz.sm⟩ (hz.beside h hn1) hL hm
      rw [← hx, ← ht, ← hn1] at hq
      refine hq.mono ?_
      rintro e w' ⟨y, rfl, o', S', hp, hG⟩
      refine ⟨⟨y, rfl⟩, o', S', hG, hp.jp.more ?_, hp.sectors, hp.len⟩
      rintro c (e | ⟨hon, e⟩)
      · exact hP c e
      · have hc := hC k x t rfl hk hx ht (by omega) (by omega) hll _ (Neat.now' hj hon)
        rcases e with e | e
        · rw [e]; exact hc.1
        · rw [e]; exact hc.2
  · refine (put_slot z.s z.q z.A z.n z.c w h.log slot (by omega)).mono ?_
    rintro e w' ⟨rfl, hbl⟩
    exact ⟨⟨_, rfl⟩, o, S, h.here hbl, hj.more hP, rfl, hlo⟩
/-- A Clear of whatever slot. -/
theorem clear_any (h : Lg W.heap.size W w g a p d o S F n) (hA : All W) (hj : Jp S d o P) (slot : Int) (_hsl : I64 slot) (hn : n ≤ 8) (hb : 2 + 2 * n ≤ blk S.sectors)
    {m : Nat} (hL : ∀ k ∈ S.disks, k.waits.length ≤ m) (hm : m ≤ 900000) (hP : ∀ c, P c → P' c) (hC : ∀ k : Nat, slot = k → k < n → ∀ v, P v → P' (upd v (2 + 2 * k) Sh.noughts)) :
    Calls Tryd.prog 21 #[.pointer (some ⟨g, 0, none⟩), .int .i64 slot] w fun e w' => (∃ y : Int, e = .returned (.int .i64 y)) ∧ ∃ o' S', LGoes W.heap.size W w w' g a p d o' S' F n ∧ Jp S' d o' P' ∧ S'.sectors = S.sectors ∧ ∀ k ∈ S'.disks, k.waits.length ≤ m + 4 := by
  have hlo : ∀ k ∈ S.disks, k.waits.length ≤ m + 4 := fun k hk => by have := hL k hk; omega
  by_cases hs : 0 ≤ slot ∧ slot < (n : Int)
  · obtain ⟨k, rfl⟩ := nat_of hs.1
    have hk : k < n := by omega
    refine (clear_jp h hA.tabs hA.tabs.size hj k hk hn hb hL hm).mono ?_
    rintro e w' ⟨y, rfl, o', S', hp, hG⟩
    refine ⟨⟨y, rfl⟩, o', S', hG, hp.jp.more ?_, hp.sectors, fun k hk => by have := hp.len k hk; omega⟩
    rintro c (e | ⟨hon, e⟩)
    · exact hP c e
    · rw [e]; exact hC k rfl hk _ (Neat.now' hj hon)
  · refine (clear_slot h.log slot (by omega)).mono ?_
    rintro e w' ⟨rfl, rfl⟩
    exact ⟨⟨_, rfl⟩, o, S, h.here (Below.refl _ _), hj.more hP, rfl, hlo⟩
end
end Go.Proofs.YtohdieddocogkaaDoor.U
namespace Go.Proofs.YtohdieddocogkaaDoor.U
open Go.ChangeShapes Go.WideShapes Go.ChangeAt Go.RowKit Go.Maps

section
variable {w w' : World}
theorem RecOk.grown {z : RecV} (h : RecOk w z) (hb : Below w.heap.size w w') : RecOk w' z := ⟨h.bs, h.bq, h.sm, (h.rd.below hb).more hb.size, h.le⟩
theorem Op7Is.grown {b o : Nat} {v : Op7} (h : Op7Is w b o v) (hl : b < w.heap.size) (hb : Below w.heap.size w w') : Op7Is w' b o v :=
  ⟨(hb.cell (p := ⟨b, o, none⟩) hl).trans h.c0, (hb.cell (p := ⟨b, o + 1, none⟩) hl).trans h.c1, (hb.cell (p := ⟨b, o + 2, none⟩) hl).trans h.c2, (hb.cell (p := ⟨b, o + 3, none⟩) hl).trans h.c3, (hb.cell (p := ⟨b, o + 4, none⟩) hl).trans h.c4, h.b0, h.b1, h.rc.grown hb⟩
theorem Ops7.grown {A : Option Addr} {n : Nat} {f : Nat → Op7} (h : Ops7 w A n f) (hb : Below w.heap.size w w') : Ops7 w' A n f := by
  refine ⟨h.1, fun h0 => ?_⟩
  obtain ⟨b, off, e, hl, hi⟩ := h.2 h0
  exact ⟨b, off, e, Nat.lt_of_lt_of_le hl hb.size, fun i hx => (hi i hx).grown hl hb⟩
theorem keep_grown {A : Option Addr} {n : Nat} {ks : List (List Int)} (h : KeepIs w (Old w) A n ks) (hb : Below w.heap.size w w') : KeepIs w' (Old w') A n ks := by
  obtain ⟨h1, h2⟩ := Sh.keep_below h hb
  refine ⟨h1, fun h0 => ?_⟩
  obtain ⟨ad, e, ho, hj⟩ := h2 h0
  refine ⟨ad, e, Nat.lt_of_lt_of_le ho hb.size, fun j hx => ?_⟩
  obtain ⟨A', m, c, q1, q2, q3, q4⟩ := hj j hx
  exact ⟨A', m, c, q1, q2, q3, fun hm a' ha => Nat.lt_of_lt_of_le (q4 hm a' ha) hb.size⟩
end
section
variable {B : Nat} {W w w' : World} {g a p d n : Nat} {o : Int} {S S' : Sh.Sf} {F : Nat → Prop} {P P' : Cs}
theorem s_flush (h : Lg B W w g a p d o S F n) (hd : d < S.disks.length) (hL : ∀ k ∈ S.disks, k.waits.length < 1099511627776) :
    Calls Tryd.prog 29 #[.pointer (some ⟨p, 0, none⟩), .int .i64 d] w fun e w' => e = .returned (.int .i64 (Sh.why S d)) ∧ LGoes B W w w' g a p d o (Fl S d) F n :=
  (fl_of w p d h.dv.on.shelf hd hL).mono fun _ _ h1 => ⟨h1.1, h.goes (h.dv.goes h1.2)⟩
theorem s_stop (h : Lg B W w g a p d o S F n) (m : Int) (m1 : -9223372036854775808 ≤ m) (m2 : m ≤ 9223372036854775807) :
    Calls Tryd.prog 26 #[.pointer (some ⟨p, 0, none⟩), .int .i64 m] w fun e w' => e = .returned (.tuple #[]) ∧ Lg B W w' g a p d o (S.doStop m) F n :=
  (Sh.stop_any w p m m1 m2 h.dv.on.shelf).mono fun _ _ h1 => ⟨h1.1, h.dv.stays h1.2.1 h1.2.2, h.log.same (h1.2.2.block g h.log.lt (fun e => h.apart (.inl e))), h.apart, h.low⟩
theorem s_crash (h : Lg W.heap.size W w g a p d o S F n) (A : Option Addr) (m c : Nat) {ks : List (List Int)} (hk : KeepIs W (Old W) A m ks) (hm : m ≤ 9223372036854775807) (hL : ∀ k ∈ S.disks, k.waits.length < 1099511627776) :
    Calls Tryd.prog 27 #[.pointer (some ⟨p, 0, none⟩), .slice A m c] w fun e w' => e = .returned (.tuple #[]) ∧ ∃ F', Sh.At W.heap.size W w' p (S.crash ks) F' ∧ Sh.Moves F w F' w' :=
  (Sh.crash_of rfl h.dv.on A m c hk hm hL).mono fun _ _ h1 => ⟨h1.1, by
    obtain ⟨F', D1, hm⟩ := h.dv.left h1.2
    exact ⟨F', D1.on, hm⟩⟩
theorem calm_jp {ks : List (List Int)} (hj : Jp S d o P) : Calm (S.crash ks) d := (hj.crash ks).1
end
end Go.Proofs.YtohdieddocogkaaDoor.U
