/-
  Calm disks: a byte that turns, a crash; the readers of lists; the definition's sums; two disks.
  Conditions: each theorem's own.
-/
import Derived.Test.YtjdjpafnakhpcaaDoorFrame
import Derived.ChangeSlices
import Derived.Deep.RegionHeld3
import Derived.Deep.DeepCutAuto
namespace Go.Proofs.YtjdjpafnakhpcaaDoor.Sh
open Go.ChangeShapes Go.WideShapes Go.ChangeAt Go.RowKit Go.Maps

section
variable {H : Type} {enc : TypeId × Value → H} {W : World}
theorem cellsInt : Tryd.prog.cellsOf 3 = 1 := by kernel_rfl
theorem cellsInts : Tryd.prog.cellsOf 114 = 1 := by kernel_rfl
theorem cellsU8 : Tryd.prog.cellsOf 5 = 1 := by kernel_rfl
theorem cellsIntss : Tryd.prog.cellsOf 33 = 1 := by kernel_rfl
theorem cells_get {base n : Nat} {a : Addr} {xs : List Value} (h : W.cells? base a n = some xs) : xs.length = n ∧ ∀ k, k < n → ∃ v, xs[k]? = some v ∧ W.cell? (a.add k) = some v := by
  unfold World.cells? at h
  split at h
  · have hl : xs.length = n := by simpa using mapM_some_length h
    refine ⟨hl, fun k hk => ?_⟩
    have := mapM_some_get h k k (by simp [hk])
    rw [List.getElem?_eq_getElem (by omega)] at this
    exact ⟨_, List.getElem?_eq_getElem (by omega), this⟩
  · cases h
theorem int_of {m : Nat} {v : Value} {y : DataW H × List MemPlace} (h : DataW.trod enc Tryd.prog W 0 (fun _ => true) true m 3 [v] = some y) : ∃ z : Int, v = .int .i64 z ∧ -9223372036854775808 ≤ z ∧ z ≤ 9223372036854775807 := by
  cases m with
  | zero => simp [DataW.trod] at h
  | succ m =>
    simp only [DataW.trod, Tryd.underlying3] at h
    cases v <;> simp at h
    rename_i k b
    obtain ⟨⟨rfl, hw⟩, _⟩ := h
    exact ⟨b, rfl, bounds_i64 hw⟩
theorem u8_of {m : Nat} {v : Value} {y : DataW H × List MemPlace} (h : DataW.trod enc Tryd.prog W 0 (fun _ => true) true m 5 [v] = some y) : ∃ z : Nat, v = .int .u8 (z : Int) ∧ z < 256 := by
  cases m with
  | zero => simp [DataW.trod] at h
  | succ m =>
    simp only [DataW.trod, Tryd.underlying5] at h
    cases v <;> simp at h
    rename_i k b
    obtain ⟨⟨rfl, hw⟩, _⟩ := h
    have := bounds_u8 hw
    exact ⟨b.toNat, by rw [Int.toNat_of_nonneg this.1], by omega⟩
/-- A slice that came in, of elements of one cell. -/
theorem each_in {t e : TypeId} {fuel n c : Nat} {A : Option Addr} {x : DataW H × List MemPlace} (ht : Tryd.prog.underlying t = some (.slice e)) (hc : Tryd.prog.cellsOf e = 1)
    (h : DataW.trod enc Tryd.prog W 0 (fun _ => true) true fuel t [.slice A n c] = some x) :
    (A = none ∧ n = 0) ∨ ∃ (ad : Addr) (m : Nat), A = some ad ∧ n ≤ 9223372036854775807 ∧ ∀ i, i < n → ∃ v y, W.cell? (ad.add i) = some v ∧ DataW.trod enc Tryd.prog W 0 (fun _ => true) true m e [v] = some y := by
  rcases DataW.trod_slice ht h with ⟨h0, hx⟩ | ⟨a, len, cap, elems, rest, m, _, h0, hx, _, hl, hm, hlen, hel, _⟩
  · simp only [List.cons.injEq, Value.slice.injEq, and_true] at h0
    obtain ⟨rfl, rfl, rfl⟩ := h0
    exact .inl ⟨rfl, rfl⟩
  · simp only [List.cons.injEq, Value.slice.injEq, and_true] at h0
    obtain ⟨rfl, rfl, rfl⟩ := h0
    refine .inr ⟨a, m, rfl, by unfold maxLen at hm; omega, fun i hi => ?_⟩
    have h1 := hel i hi
    rw [hc, Nat.mul_one, List.getElem?_eq_getElem (by omega), Option.bind_eq_some_iff] at h1
    obtain ⟨cs, hcs, hy⟩ := h1
    obtain ⟨hl1, hg⟩ := cells_get hcs
    obtain ⟨v, hv, hcv⟩ := hg 0 (by decide)
    have e : cs = [v] := by
      match cs, hl1, hv with
      | [u], _, hv => simpa using hv
    subst e
    have e2 : (a.add i).add 0 = a.add i := by unfold Addr.add; simp
    rw [e2] at hcv
    exact ⟨v, _, hcv, hy⟩
theorem ints_in {fuel n c : Nat} {A : Option Addr} {x : DataW H × List MemPlace} (h : DataW.trod enc Tryd.prog W 0 (fun _ => true) true fuel 114 [.slice A n c] = some x) :
    ∃ l : List Int, n ≤ 9223372036854775807 ∧ Reads W W.heap.size A n (ints l) ∧ (0 < n → ∀ a, A = some a → a.block < W.heap.size) := by
  rcases each_in Tryd.underlying114 cellsInt h with ⟨rfl, rfl⟩ | ⟨ad, m, rfl, hn, hel⟩
  · exact ⟨[], by decide, Reads.none_, fun h => absurd h (by decide)⟩
  · have hz : ∀ i, ∃ z : Int, i < n → W.cell? (ad.add i) = some (.int .i64 z) := by
      intro i
      by_cases hi : i < n
      · obtain ⟨v, y, hv, hy⟩ := hel i hi
        obtain ⟨z, rfl, _⟩ := int_of hy
        exact ⟨z, fun _ => hv⟩
      · exact ⟨0, fun h => absurd h hi⟩
    obtain ⟨f, hf⟩ := Classical.axiomOfChoice hz
    have hb : 0 < n → ad.block < W.heap.size := fun h0 => by
      have := World.block_lt_of_cell? W _ (hf 0 h0)
      rwa [block_of_add] at this
    refine ⟨(List.range n).map f, hn, ⟨by simp [ints], fun h0 => ⟨ad, rfl, hb h0, fun j u hu => ?_⟩⟩, fun h0 a ha => by injection ha with ha; subst ha; exact hb h0⟩
    have hj : j < n := by
      rcases Nat.lt_or_ge j n with h | h
      · exact h
      · rw [List.getElem?_eq_none (by simpa [ints] using h)] at hu; cases hu
    rw [hf j hj, ← hu]
    simp [ints, hj]
theorem keep_in {fuel n c : Nat} {A : Option Addr} {x : DataW H × List MemPlace} (h : DataW.trod enc Tryd.prog W 0 (fun _ => true) true fuel 33 [.slice A n c] = some x) :
    ∃ ks : List (List Int), n ≤ 9223372036854775807 ∧ KeepIs W (Old W) A n ks := by
  rcases each_in Tryd.underlying33 cellsInts h with ⟨rfl, rfl⟩ | ⟨ad, m, rfl, hn, hel⟩
  · exact ⟨[], by decide, rfl, fun h => absurd h (by decide)⟩
  · have hz : ∀ i, ∃ l : List Int, i < n → ∃ A' m c, W.cell? (ad.add i) = some (.slice A' m c) ∧ m ≤ 9223372036854775807 ∧ Reads W W.heap.size A' m (ints l) ∧ (0 < m → ∀ a', A' = some a' → Old W a'.block) := by
      intro i
      by_cases hi : i < n
      · obtain ⟨v, y, hv, hy⟩ := hel i hi
        obtain ⟨A', n', c', rfl⟩ : ∃ A' n' c', v = .slice A' n' c' := by
          rcases DataW.trod_slice Tryd.underlying114 hy with ⟨h0, _⟩ | ⟨a, len, cap, _, _, _, _, h0, _⟩
          · simp only [List.cons.injEq, and_true] at h0; exact ⟨_, _, _, h0⟩
          · simp only [List.cons.injEq, and_true] at h0; exact ⟨_, _, _, h0⟩
        obtain ⟨l, h1, h2, h3⟩ := ints_in hy
        exact ⟨l, fun _ => ⟨A', n', c', hv, h1, h2, h3⟩⟩
      · exact ⟨[], fun h => absurd h hi⟩
    obtain ⟨f, hf⟩ := Classical.axiomOfChoice hz
    refine ⟨(List.range n).map f, hn, by simp, fun h0 => ⟨ad, rfl, ?_, fun j hj => ?_⟩⟩
    · obtain ⟨_, _, _, h1, _⟩ := hf 0 h0
      have := World.block_lt_of_cell? W _ h1
      rwa [block_of_add] at this
    · have e : ((List.range n).map f).getD j [] = f j := by simp [List.getD, hj]
      rw [e]
      exact hf j hj
end
end Go.Proofs.YtjdjpafnakhpcaaDoor.Sh
namespace Go.Proofs.YtjdjpafnakhpcaaDoor.U
open Go.ChangeShapes Go.WideShapes Go.ChangeAt Go.RowKit Go.Maps

section
variable {S : Sh.Sf} {d : Nat}
theorem turn_calm (h : Calm S d) (hw : (S.disks.getD d default).waits = []) (n i x : Nat) (hn : n < S.sectors) :
    Over S d (fun m => m = n) (S.doCorrupt d n i x) ∧ V (S.doCorrupt d n i x) d n = Sh.turnB (V S d n) i x ∧ ((S.doCorrupt d n i x).disks.getD d default).waits = [] := by
  have hg : ∀ e, (S.doCorrupt d n i x).disks.getD e default = if e = d then (S.disks.getD d default).turn n i x else S.disks.getD e default := fun e => Sh.getD_set _ _ _ _ h.lt
  have hgd : (S.doCorrupt d n i x).disks.getD d default = (S.disks.getD d default).turn n i x := by rw [hg, if_pos rfl]
  have hlen := h.len
  refine ⟨⟨⟨by show d < (S.disks.set d _).length; rw [List.length_set]; exact h.lt, h.on, h.left, by rw [hgd]; exact h.alive, ?_⟩, rfl, by show (S.disks.set d _).length = _; rw [List.length_set], fun m hm hne => ?_, fun e he => by rw [hg, if_neg he]⟩, ?_, by rw [hgd]; exact hw⟩
  · rw [hgd]
    show ((S.disks.getD d default).sure.set n _).length = S.sectors
    rw [List.length_set]; exact hlen
  · unfold V
    rw [hgd]
    show Sh.latest (S.disks.getD d default).waits m (((S.disks.getD d default).sure.set n _).getD m []) = Sh.latest (S.disks.getD d default).waits m ((S.disks.getD d default).sure.getD m [])
    congr 1
    simp [List.getD, List.getElem?_set_ne (Ne.symm hne)]
  · unfold V
    rw [hgd]
    show Sh.latest (S.disks.getD d default).waits n (((S.disks.getD d default).sure.set n _).getD n []) = Sh.turnB (Sh.latest (S.disks.getD d default).waits n ((S.disks.getD d default).sure.getD n [])) i x
    rw [hw]
    show ((S.disks.getD d default).sure.set n _).getD n [] = Sh.turnB ((S.disks.getD d default).sure.getD n []) i x
    have hn' : n < (S.disks.getD d default).sure.length := by rw [hlen]; exact hn
    generalize (S.disks.getD d default).sure = u at *
    simp [List.getD, hn']
theorem crash_calm (ks : List (List Int)) (hd : d < S.disks.length) (ha : (S.disks.getD d default).dead = false) (hl : (S.disks.getD d default).sure.length = S.sectors) : Calm (S.crash ks) d := by
  have hg := Sh.crash_getD S ks hd
  refine ⟨by rw [Sh.crash_length]; exact hd, rfl, rfl, by rw [hg]; exact ha, ?_⟩
  rw [hg]
  exact (Sh.stl_length _ _ _ _).trans hl
theorem crash_V (ks : List (List Int)) (hd : d < S.disks.length) (hw : (S.disks.getD d default).waits = []) (n : Nat) : V (S.crash ks) d n = V S d n := by
  unfold V
  rw [Sh.crash_getD S ks hd]
  show (Sh.stl _ (S.disks.getD d default).waits 0 (S.disks.getD d default).sure).getD n [] = Sh.latest (S.disks.getD d default).waits n ((S.disks.getD d default).sure.getD n [])
  rw [hw]
  rfl
theorem crash_sectors (ks : List (List Int)) : (S.crash ks).sectors = S.sectors := rfl
end
theorem good_same {S S' : Sh.Sf} {d k : Nat} (h1 : V S' d (sumOf k) = V S d (sumOf k)) (h2 : V S' d (dataOf k) = V S d (dataOf k)) : goodAt S' d k = goodAt S d k := by
  unfold goodAt
  rw [h1, h2]
/-! ### kept writes that came in -/
abbrev KeepIs := @Sh.KeepIs
abbrev Old := @Sh.Old
section
variable {H : Type} {enc : TypeId × Value → H} {W : World}
theorem keep_in {fuel n c : Nat} {A : Option Addr} {x : DataW H × List MemPlace} (h : DataW.trod enc Tryd.prog W 0 (fun _ => true) true fuel 33 [.slice A n c] = some x) :
    ∃ ks : List (List Int), n ≤ 9223372036854775807 ∧ KeepIs W (Old W) A n ks := Sh.keep_in h
end
end Go.Proofs.YtjdjpafnakhpcaaDoor.U
namespace Go.Proofs.YtjdjpafnakhpcaaDoor.U
open Go.RowKit Go.Maps

theorem strL_inj {l m : Sh.Bs} (hl : Small l) (hm : Small m) (h : Sh.strL l = Sh.strL m) : l = m := by
  have h1 := congrArg (fun s : ByteArray => s.data.toList) h
  simp only [Sh.strL_data] at h1
  have h2 : ∀ a : List Nat, Small a → (a.map fun x => UInt8.ofNat x).map (fun (x : UInt8) => x.toNat) = a := by
    intro a ha
    rw [List.map_map]
    conv => rhs; rw [← List.map_id a]
    apply List.map_congr_left
    intro x hx
    have := ha x hx
    simp [UInt8.toNat_ofNat', Nat.mod_eq_of_lt this]
  rw [← h2 l hl, ← h2 m hm, h1]
set_option maxRecDepth 20000 in
theorem refSums_any (l : Sh.Bs) (h : Sh.Sec l) (k : Nat) (hk : k ≤ 4096) (w : World) :
    Calls Tryd.prog 69 #[.string (Sh.strL l), .int .i64 k] w fun e w' => e = .returned (.tuple #[.int .u32 ((pr l k 0 : Nat) : Int), .int .u32 ((pr l k 1 : Nat) : Int)]) ∧ Below w.heap.size w w' := by
  have h1 : ((k : Int) % 16) = ((k % 16 : Nat) : Int) := by omega
  have hm : k % 16 * 8 ≤ 120 := by omega
  have HC := Lib.hid (fun w => Sh.bytes_of w l h.1)
  have HN := Lib.hid (fun w G => Sh.bytes_new2 w l h G w.heap.size rfl)
  have HB0 := Lib.hid (fun (w : World) G => show Below w.heap.size w (w.alloc (.cells (bytesRow (Sh.strL l) G) 5 ((bytesRow (Sh.strL l) G).size, (bytesRow (Sh.strL l) G).size + 1))).drew from ((Below.refl _ w).alloc (Nat.le_refl _) _).drew)
  have q0 := getN_cut_lt h.2 (k % 16 * 8)
  have q1 := getN_cut_lt h.2 (k % 16 * 8 + 4)
  have e0 : pr l k 0 = getN (cutAt l (k % 16 * 8) 4) := rfl
  have e1 : pr l k 1 = getN (cutAt l (k % 16 * 8 + 4) 4) := rfl
  rw [e0, e1]
  have G0 := Lib.hid (fun (W : World) (B : Nat) (A : Option Addr) (c : Nat) (hr : Reads W B A 128 (bts l)) => refGet_ok A 128 c B l (k % 16 * 8) 4 W (by decide) (by decide) h.2 hr (by decide) (by omega))
  have G1 := Lib.hid (fun (W : World) (B : Nat) (A : Option Addr) (c : Nat) (hr : Reads W B A 128 (bts l)) => refGet_ok A 128 c B l (k % 16 * 8 + 4) 4 W (by decide) (by decide) h.2 hr (by decide) (by omega))
  have hx : 8 * ((k % 16 : Nat) : Int) = ((k % 16 * 8 : Nat) : Int) := by omega
  clear e0 e1
  generalize getN (cutAt l (k % 16 * 8) 4) = x0 at *
  generalize getN (cutAt l (k % 16 * 8 + 4) 4) = x1 at *
  generalize hmm : k % 16 * 8 = m at *
  generalize k % 16 = r at *
  clear hmm
  have hw0 : ((x0 : Nat) : Int) % 4294967296 = x0 := by omega
  have hw1 : ((x1 : Nat) : Int) % 4294967296 = x1 := by omega
  have kb := HC.out w
  have N1 := Lib.hid (HN.out w (grownCap w 128 0 5))
  have B1 := Lib.hid (HB0.out w (grownCap w 128 0 5))
  generalize hs : Sh.strL l = s at *
  have Hs := Lib.hid hs
  clear hs
  go_enter Tryd.func69, Tryd.ntmps69
  go_wp2_with fail
  have kb2 := HC.out (w.alloc (.cells (bytesRow s (grownCap w 128 0 5)) 5 ((bytesRow s (grownCap w 128 0 5)).size, (bytesRow s (grownCap w 128 0 5)).size + 1))).drew
  have N2 := Lib.hid (HN.out (w.alloc (.cells (bytesRow s (grownCap w 128 0 5)) 5 ((bytesRow s (grownCap w 128 0 5)).size, (bytesRow s (grownCap w 128 0 5)).size + 1))).drew (grownCap (w.alloc (.cells (bytesRow s (grownCap w 128 0 5)) 5 ((bytesRow s (grownCap w 128 0 5)).size, (bytesRow s (grownCap w 128 0 5)).size + 1))).drew 128 0 5))
  have B2 := Lib.hid (HB0.out (w.alloc (.cells (bytesRow s (grownCap w 128 0 5)) 5 ((bytesRow s (grownCap w 128 0 5)).size, (bytesRow s (grownCap w 128 0 5)).size + 1))).drew (grownCap (w.alloc (.cells (bytesRow s (grownCap w 128 0 5)) 5 ((bytesRow s (grownCap w 128 0 5)).size, (bytesRow s (grownCap w 128 0 5)).size + 1))).drew 128 0 5))
  generalize (w.alloc (.cells (bytesRow s (grownCap w 128 0 5)) 5 ((bytesRow s (grownCap w 128 0 5)).size, (bytesRow s (grownCap w 128 0 5)).size + 1))).drew = W1 at *
  refine (G0.out _ _ _ _ N1.out.1).mono ?_
  rintro e w' ⟨rfl, rfl⟩
  go_wp2_with fail
  generalize (W1.alloc (.cells (bytesRow s (grownCap W1 128 0 5)) 5 ((bytesRow s (grownCap W1 128 0 5)).size, (bytesRow s (grownCap W1 128 0 5)).size + 1))).drew = W2 at *
  refine (G1.out _ _ _ _ N2.out.1).mono ?_
  rintro e w' ⟨rfl, rfl⟩
  clear kb kb2
  go_wp2_with fail
  go_ret2
  exact ⟨rfl, B1.out.trans (B2.out.mono B1.out.size)⟩
theorem str_eq {l k : Sh.Bs} (hl : Small l) (hk : Small k) : ((Sh.strL k).toList == (Sh.strL l).toList) = decide (k = l) := by
  rw [ByteArray.toList_eq, ByteArray.toList_eq]
  by_cases h : k = l
  · subst h; simp
  · have h2 : (Sh.strL k).data.toList ≠ (Sh.strL l).data.toList := fun e => h (strL_inj hk hl (by
      have e2 : (Sh.strL k).data = (Sh.strL l).data := Array.ext' e
      cases hA : Sh.strL k
      cases hB : Sh.strL l
      rw [hA, hB] at e2
      simp only at e2
      rw [e2]))
    rw [decide_eq_false h]
    exact beq_eq_false_iff_ne.2 h2
theorem info_byte : (Tryd.prog.info? 5).map (fun i => (i.zero, i.size, i.bytes)) = some (some (.int .u8 0), 1, 1) := by kernel_rfl
theorem noughts_own {w : World} {B g : Nat} (h : w.ownsRow B 5 1 (.slice (some ⟨g, 0, none⟩) 128 128) 128 (madeCells (Value.int .u8 0).cells (128 * 1)).toList) : w.ownsRow B 5 1 (.slice (some ⟨g, 0, none⟩) 128 128) 128 (bts Sh.noughts) := by
  have e : (madeCells (Value.int .u8 0).cells (128 * 1)).toList = bts Sh.noughts := by
    rw [show bts Sh.noughts = List.replicate 128 (.int .u8 0) from by simp [bts, Sh.noughts]]
    have := made_zero (fun _ => 0) 128
    rw [this, tabTo_zero]
  rw [← e]; exact h
/-- 128 noughts are made, in an operation that may bear a guard. -/
theorem makeNoughts {ops : Array Oper} {rest : List Oper} {o : Oper} {a : Act} {w : World} {Q : Exit → Act → World → Prop} (hgd : Region.wanted o (yielded ops a.tmps) = true) (l c : Operand) (hop : o.op = Op.makeSlice 28 l c) (hl : a.eval l = .int .i64 128) (hc : a.eval c = .int .i64 128)
    (h : ∀ w', w'.ownsRow w.heap.size 5 1 (.slice (some ⟨w.heap.size, 0, none⟩) 128 128) 128 (bts Sh.noughts) → w.grownBy w' none → wpList Tryd.prog ops Q rest (a.put o.dst (.slice (some ⟨w.heap.size, 0, none⟩) 128 128)) w') : wpList Tryd.prog ops Q (o :: rest) a w :=
  BigFrame.wpList_want hgd fun K hK => by
    obtain ⟨i1, ki, kz0, kz1, kz2⟩ := info_parts info_byte
    obtain ⟨w', hrun, r1, r2⟩ := run_make_full (P := Tryd.prog) w w.heap.size 28 5 i1 _ 1 Tryd.underlying28 ki kz0 kz1 .i64 .i64 128 (by rw [kz2]; omega) (by unfold maxLen; omega) (Nat.le_refl _)
    have hrun' : (Instr.makeSlice 28 (.int .i64 128) (.int .i64 128)).run Tryd.prog w = .ok (.slice (some ⟨w.heap.size, 0, none⟩) 128 128) w' := hrun
    unfold Oper.wp
    simp [execOp, hop, hl, hc, hrun', Result.andThen]
    exact hK _ _ (h _ (noughts_own r1) r2)
set_option maxRecDepth 20000 in
set_option maxHeartbeats 1000000 in
theorem refGood_any (d k : Nat) (hk : k ≤ 4096) (sec b : Sh.Bs) (hs : Sh.Sec sec) (hb : Sh.Sec b) (w : World) :
    Calls Tryd.prog 36 #[.int .i64 d, .int .i64 k, .string (Sh.strL sec), .string (Sh.strL b)] w fun e w' => e = .returned (.bool (goodL d k sec b)) ∧ Below w.heap.size w w' := by
  have hsm := Lib.hid (fun w => refSums_any sec hs k hk w)
  have HC := Lib.hid (fun w => Sh.bytes_of w b hb.1)
  have HN := Lib.hid (fun w G => Sh.bytes_new2 w b hb G w.heap.size rfl)
  have HB0 := Lib.hid (fun (w : World) G => show Below w.heap.size w (w.alloc (.cells (bytesRow (Sh.strL b) G) 5 ((bytesRow (Sh.strL b) G).size, (bytesRow (Sh.strL b) G).size + 1))).drew from ((Below.refl _ w).alloc (Nat.le_refl _) _).drew)
  have HS := Lib.hid (fun w A c (hr : Reads w w.heap.size A 128 (bts b)) => refSum_any d k A 128 c b w hb.2 hr (by decide))
  have heq := str_eq (l := Sh.noughts) (k := b) Sh.noughts_sec.2 hb.2
  unfold goodL goodB
  generalize pr sec k 0 = x at *
  generalize pr sec k 1 = y at *
  generalize sumL (d : Int) (k : Int) b = s at *
  generalize decide (b = Sh.noughts) = q at *
  generalize hsb : Sh.strL b = sb at *
  generalize Sh.strL sec = ss at *
  generalize hsn : Sh.strL Sh.noughts = sn at *
  have HSN := Lib.hid hsn
  clear hsb hsn
  by_cases h1 : s = x
  · subst h1
    have hg : (decide (s = s) || (decide (s = y) || (decide (s = 0 ∧ y = 0) && q))) = true := by simp
    rw [hg]
    clear hg heq
    go_enter Tryd.func36, Tryd.ntmps36
    go_wp2_with fail
    refine (hsm.out w).mono ?_
    rintro e w1 ⟨rfl, b1⟩
    have kb := HC.out w1
    have N1 := Lib.hid (HN.out w1 (grownCap w1 128 0 5))
    have B1 := Lib.hid (HB0.out w1 (grownCap w1 128 0 5))
    go_wp2_with fail
    refine (HS.out _ _ _ N1.out.1).mono ?_
    rintro e w3 ⟨rfl, b3⟩
    clear kb
    go_wp2
    go_ret
    exact ⟨rfl, (b1.trans (B1.out.mono b1.size)).trans (b3.mono (Nat.le_trans b1.size B1.out.size))⟩
  · have q1 : ((s : Int) == (x : Int)) = false := by rw [beq_eq_false_iff_ne]; omega
    by_cases h2 : s = y
    · subst h2
      have hg : (decide (s = x) || (decide (s = s) || (decide (x = 0 ∧ s = 0) && q))) = true := by simp
      rw [hg]
      clear hg h1 heq
      go_enter Tryd.func36, Tryd.ntmps36
      go_wp2_with fail
      refine (hsm.out w).mono ?_
      rintro e w1 ⟨rfl, b1⟩
      have kb := HC.out w1
      have N1 := Lib.hid (HN.out w1 (grownCap w1 128 0 5))
      have B1 := Lib.hid (HB0.out w1 (grownCap w1 128 0 5))
      go_wp2_with fail
      refine (HS.out _ _ _ N1.out.1).mono ?_
      rintro e w3 ⟨rfl, b3⟩
      clear kb
      go_wp2
      go_ret
      exact ⟨rfl, (b1.trans (B1.out.mono b1.size)).trans (b3.mono (Nat.le_trans b1.size B1.out.size))⟩
    · have q2 : ((s : Int) == (y : Int)) = false := by rw [beq_eq_false_iff_ne]; omega
      have hg : (decide (s = x) || (decide (s = y) || (decide (x = 0 ∧ y = 0) && q))) = (decide (x = 0 ∧ y = 0) && q) := by simp [h1, h2]
      rw [hg]
      clear hg h1 h2
      by_cases h0 : x = 0 ∧ y = 0
      · obtain ⟨rfl, rfl⟩ := h0
        have q0 : ((s : Int) == 0) = false := by simpa using q1
        clear q1 q2
        have hg : (decide ((0 : Nat) = 0 ∧ (0 : Nat) = 0) && q) = q := by simp
        rw [hg]
        clear hg
        go_enter Tryd.func36, Tryd.ntmps36
        go_wp2_with fail
        refine (hsm.out w).mono ?_
        rintro e w1 ⟨rfl, b1⟩
        have kb := HC.out w1
        have N1 := Lib.hid (HN.out w1 (grownCap w1 128 0 5))
        have B1 := Lib.hid (HB0.out w1 (grownCap w1 128 0 5))
        go_wp2_with fail
        refine (HS.out _ _ _ N1.out.1).mono ?_
        rintro e w3 ⟨rfl, b3⟩
        clear kb
        have hfin := Lib.hid ((b1.trans (B1.out.mono b1.size)).trans (b3.mono (Nat.le_trans b1.size B1.out.size)))
        go_wp2_with (refine makeNoughts (o := ⟨some 40, _, _, _, _, _⟩) (by rfl) _ _ rfl rfl rfl ?_; intro w4 ho4 hg4; have ht4 := Sh.run_str 128 (Sh.Reads.of_own ho4); rw [HSN.out] at ht4)
        all_goals
          go_ret
          exact ⟨rfl, hfin.out.trans (⟨hg4.os, hg4.tape, hg4.output, hg4.size, fun k hk => hg4.block k (by have := hfin.out.size; omega) (by simp)⟩)⟩
      · have hxy : decide (x = 0 ∧ y = 0) = false := decide_eq_false h0
        rw [hxy, Bool.false_and]
        clear hxy heq
        have h0' : ((x : Int) == 0) = false ∨ (((x : Int) == 0) = true ∧ ((y : Int) == 0) = false) := by
          by_cases hx : x = 0
          · exact .inr ⟨by rw [hx]; rfl, by rw [beq_eq_false_iff_ne]; omega⟩
          · exact .inl (by rw [beq_eq_false_iff_ne]; omega)
        clear h0
        rcases h0' with h0 | ⟨h0, h00⟩
        all_goals
          go_enter Tryd.func36, Tryd.ntmps36
          go_wp2_with fail
          refine (hsm.out w).mono ?_
          rintro e w1 ⟨rfl, b1⟩
          have kb := HC.out w1
          have N1 := Lib.hid (HN.out w1 (grownCap w1 128 0 5))
          have B1 := Lib.hid (HB0.out w1 (grownCap w1 128 0 5))
          go_wp2_with fail
          refine (HS.out _ _ _ N1.out.1).mono ?_
          rintro e w3 ⟨rfl, b3⟩
          clear kb
          go_wp2
          go_ret
          exact ⟨rfl, (b1.trans (B1.out.mono b1.size)).trans (b3.mono (Nat.le_trans b1.size B1.out.size))⟩
end Go.Proofs.YtjdjpafnakhpcaaDoor.U
namespace Go.Proofs.YtjdjpafnakhpcaaDoor.U.sumsMoved
open Go.ChangeShapes Go.WideShapes Go.ChangeAt Go.RowKit

theorem DB_other {B : Nat} {W w w' : World} {a a2 p d d2 : Nat} {o o2 : Int} {S S' : Sh.Sf} {F F' : Nat → Prop} (h2 : Dv B W w a2 p d2 o2 S F) (hne : a2 ≠ a) (h : Dv B W w' a p d o S' F') (m : Sh.Moves (With F a) w (With F' a) w') : Dv B W w' a2 p d2 o2 S' F' := by
  have hn : ¬ With F a a2 := fun e => e.elim h2.apart hne
  refine ⟨h.on, h2.dev.same (m.1.block a2 h2.dev.lt hn), fun e => ?_, h2.low⟩
  rcases m.2 a2 (.inl e) with e | e
  · exact hn e
  · exact Nat.lt_irrefl _ (Nat.lt_of_lt_of_le h2.dev.lt e)
theorem calm_all {S S' : Sh.Sf} {d : Nat} {N : Nat → Prop} (h : ∀ e, e < 2 → Calm S e) (ho : Over S d N S') : ∀ e, e < 2 → Calm S' e := by
  intro e he
  by_cases hed : e = d
  · rw [hed]; exact ho.calm
  · have h1 := h e he
    have h2 := ho.alike e hed
    exact ⟨by rw [ho.len]; exact h1.lt, ho.calm.on, ho.calm.left, by rw [h2]; exact h1.alive, by rw [h2, ho.sectors]; exact h1.len⟩
theorem raw_same {S S' : Sh.Sf} {d n : Nat} {N : Nat → Prop} (ho : Over S d N S') (hn : n < S.sectors) (h : d ≠ 0 ∨ ¬ N n) : V S' 0 n = V S 0 n := by
  by_cases hd : d = 0
  · subst hd
    exact ho.same n hn (h.elim (fun e => absurd rfl e) id)
  · unfold V
    rw [ho.alike 0 (fun e => hd e.symm)]
end Go.Proofs.YtjdjpafnakhpcaaDoor.U.sumsMoved
