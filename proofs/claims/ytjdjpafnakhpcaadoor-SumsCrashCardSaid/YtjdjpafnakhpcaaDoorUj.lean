/-
  Is a block good? The contracts of isBlank and good.
  Conditions: the block's bytes can be read.
-/
import Derived.Test.YtjdjpafnakhpcaaDoorUw
import Derived.ChangeKeysEq
import Derived.Laws.StructEq
namespace Go.Proofs.YtjdjpafnakhpcaaDoor.U
open Go.RowKit Go.Maps

theorem u32_plain : Tryd.prog.plainKey 29 = true := by kernel_rfl
theorem cells_u32 : Tryd.prog.cellsOf 29 = 1 := by kernel_rfl
theorem u8_plain : Tryd.prog.plainKey 5 = true := by kernel_rfl
theorem cells_u8 : Tryd.prog.cellsOf 5 = 1 := by kernel_rfl
def zcB : Array Value := (List.replicate 128 (Value.int .u8 0)).toArray
theorem zcB_bts : zcB = (bts Sh.noughts).toArray := by simp [zcB, bts, Sh.noughts]
theorem zcB_ne : zcB ≠ #[] := fun h => by have := congrArg Array.size h; simp [zcB] at this
theorem zero_bytes : ∀ w, (zeroValue 152).run Tryd.prog w = .ok (.agg zcB) w := fun w => by kernel_rfl
theorem zero_pair : ∀ w, (zeroValue 108).run Tryd.prog w = .ok (.agg #[.int .u32 0, .int .u32 0]) w := fun w => by kernel_rfl
theorem eqItems_bytes (w : World) (d : Nat) (l k : List Nat) : ∀ is : List Nat, (∀ i ∈ is, i < l.length ∧ i < k.length) →
    (Op.eqItems (d + 1) 5 1 (bts l).toArray (bts k).toArray is).run Tryd.prog w = .ok (is.all fun i => l.getD i 0 == k.getD i 0) w
  | [], _ => by simp [Op.eqItems]
  | i :: is, h => by
    have h1 := h i (by simp)
    have a : (bts l).toArray[i * 1]? = some (.int .u8 ((l.getD i 0 : Nat) : Int)) := by rw [Nat.mul_one, List.getElem?_toArray]; exact bts_get l i h1.1
    have b : (bts k).toArray[i * 1]? = some (.int .u8 ((k.getD i 0 : Nat) : Int)) := by rw [Nat.mul_one, List.getElem?_toArray]; exact bts_get k i h1.2
    have p1 := run_part_plain (P := Tryd.prog) (w := w) u8_plain a
    have p2 := run_part_plain (P := Tryd.prog) (w := w) u8_plain b
    have ih := eqItems_bytes w d l k is (fun j hj => h j (List.mem_cons_of_mem _ hj))
    have e1 := run_equalIn_int (P := Tryd.prog) w d 5 .u8 .u8 ((l.getD i 0 : Nat) : Int) ((k.getD i 0 : Nat) : Int) Tryd.underlying5
    have e2 : (((l.getD i 0 : Nat) : Int) == ((k.getD i 0 : Nat) : Int)) = (l.getD i 0 == k.getD i 0) := by
      rw [Bool.eq_iff_iff, beq_iff_eq, beq_iff_eq]; omega
    rw [e2] at e1
    simp only [Op.eqItems, Sem.run_bind, p1, p2, e1, Result.andThen_ok, List.all_cons]
    by_cases hq : (l.getD i 0 == k.getD i 0) = true
    · rw [hq]
      simpa using ih
    · rw [Bool.not_eq_true] at hq
      rw [hq]
      simp
theorem all_eq {l k : List Nat} (hl : l.length = 128) (hk : k.length = 128) : ((List.range 128).all fun i => l.getD i 0 == k.getD i 0) = (l == k) := by
  rw [Bool.eq_iff_iff, beq_iff_eq, List.all_eq_true]
  constructor
  · intro h
    apply List.ext_getElem (by omega)
    intro i h1 h2
    have := h i (List.mem_range.2 (by omega))
    rw [beq_iff_eq] at this
    simpa [List.getD, List.getElem?_eq_getElem h1, List.getElem?_eq_getElem h2] using this
  · rintro rfl i _
    simp
theorem info_arr : ∃ i, Tryd.prog.info? 5 = some i := info_of_underlying Tryd.underlying5
theorem arr_equal (w : World) (d : Nat) {l k : List Nat} (hl : l.length = 128) (hk : k.length = 128) :
    (Op.equalIn (d + 2) 152 (.agg (bts l).toArray) (.agg (bts k).toArray)).run Tryd.prog w = .ok (l == k) w := by
  obtain ⟨i, hi⟩ := info_arr
  rw [run_equalIn_array w (d + 1) (bts l).toArray (bts k).toArray Tryd.underlying152 hi, cells_u8, eqItems_bytes w d l k (List.range 128) (fun j hj => by have := List.mem_range.1 hj; omega), all_eq hl hk]
theorem arr_eql (w : World) {l k : List Nat} (hl : l.length = 128) (hk : k.length = 128) : (Op.equalIn 10000 152 (.agg (bts l).toArray) (.agg (bts k).toArray)).run Tryd.prog w = .ok (l == k) w := arr_equal w 9998 hl hk
theorem eqItems_two (w : World) (d x y : Nat) : (Op.eqItems (d + 1) 29 1 #[.int .u32 (x : Int), .int .u32 (y : Int)] #[.int .u32 0, .int .u32 0] [0, 1]).run Tryd.prog w = .ok (x == 0 && y == 0) w := by
  have p0 := run_part_plain (P := Tryd.prog) (w := w) u32_plain (show (#[.int .u32 (x : Int), .int .u32 (y : Int)] : Array Value)[0 * 1]? = some (.int .u32 (x : Int)) from rfl)
  have p1 := run_part_plain (P := Tryd.prog) (w := w) u32_plain (show (#[.int .u32 (x : Int), .int .u32 (y : Int)] : Array Value)[1]? = some (.int .u32 (y : Int)) from rfl)
  have q0 := run_part_plain (P := Tryd.prog) (w := w) u32_plain (show (#[.int .u32 0, .int .u32 0] : Array Value)[0 * 1]? = some (.int .u32 0) from rfl)
  have q1 := run_part_plain (P := Tryd.prog) (w := w) u32_plain (show (#[.int .u32 0, .int .u32 0] : Array Value)[1]? = some (.int .u32 0) from rfl)
  have e0 := run_equalIn_int (P := Tryd.prog) w d 29 .u32 .u32 (x : Int) 0 Tryd.underlying29
  have e1 := run_equalIn_int (P := Tryd.prog) w d 29 .u32 .u32 (y : Int) 0 Tryd.underlying29
  have f0 : ((x : Int) == 0) = (x == 0) := by rw [Bool.eq_iff_iff, beq_iff_eq, beq_iff_eq]; omega
  have f1 : ((y : Int) == 0) = (y == 0) := by rw [Bool.eq_iff_iff, beq_iff_eq, beq_iff_eq]; omega
  rw [f0] at e0
  rw [f1] at e1
  simp only [Op.eqItems, Sem.run_bind, p0, q0, e0, Result.andThen_ok]
  cases x == 0
  · simp
  · simp only [Nat.one_mul, p1, q1, e1, Result.andThen_ok, Bool.not_true, Bool.false_eq_true, if_false, Sem.run_bind]
    cases y == 0 <;> simp
theorem pair_eql (w : World) (x y : Nat) : (Op.equalIn 10000 108 (.agg #[.int .u32 (x : Int), .int .u32 (y : Int)]) (.agg #[.int .u32 0, .int .u32 0])).run Tryd.prog w = .ok (x == 0 && y == 0) w := by
  obtain ⟨i, hi⟩ := info_of_underlying (P := Tryd.prog) Tryd.underlying29
  rw [show (10000 : Nat) = 9998 + 2 from rfl, run_equalIn_array w (9998 + 1) _ _ Tryd.underlying108 hi, cells_u32]
  exact eqItems_two w 9998 x y
/-- 128 bytes are read as an array. -/
theorem load_arr {w : World} {B : Nat} {ad : Addr} {b : Sh.Bs} (hr : Reads w B (some ad) 128 (bts b)) : (loadVar 152 ad).run Tryd.prog w = .ok (.agg (bts b).toArray) w := by
  obtain ⟨ad', e, _, hc⟩ := hr.2 (by decide)
  obtain rfl : ad = ad' := Option.some.inj e
  have h1 := run_loadCells_list (P := Tryd.prog) w ad (bts b) hc
  have hl : (bts b).length = 128 := hr.1
  rw [hl] at h1
  obtain ⟨i, hi⟩ := info_of_underlying (P := Tryd.prog) Tryd.underlying152
  have hsz : Tryd.prog.cellsOf 152 = 128 := by kernel_rfl
  have h0 : (isAgg 152).run Tryd.prog w = .ok true w := by simp [isAgg, run_underlying Tryd.underlying152]
  have h2 : (sizeOf 152).run Tryd.prog w = .ok 128 w := by rw [run_sizeOf w hi, hsz]
  unfold loadVar
  simp only [Sem.run_bind, h0, h2, h1, Result.andThen_ok, if_true, Sem.run_pure]
theorem results_cell2 {fn : Func} {a b : Tmp} {t : TypeId} {P : Program} {w : World} {v x : Value} {tmps : Array Value} {g : Nat} (h : fn.results = #[.cell a t, .tmp b])
    (hp : tmps.getD a undef = .pointer (some ⟨g, 0, none⟩)) (hl : (loadVar t ⟨g, 0, none⟩).run P w = .ok v w) (hx : tmps.getD b undef = x) : (results fn tmps).run P w = .ok (.tuple #[v, x]) w := by
  rw [Array.getD_eq_getD_getElem?] at hp
  rw [Array.getD_eq_getD_getElem?] at hx
  simp [results, h, hp, hx, asAddr, hl]
/-- What look tells of a block. -/
def stV (k : Nat) (A1 : Option Addr) (c1 : Nat) (A2 : Option Addr) (c2 : Nat) (x y s : Nat) : Array Value := #[.int .i64 (k : Int), .int .i64 ((sumOf k : Nat) : Int), .int .i64 ((dataOf k : Nat) : Int), .slice A1 128 c1, .slice A2 128 c2, .int .u32 (x : Int), .int .u32 (y : Int), .int .u32 (s : Int)]
def st0 : Array Value := #[.int .i64 0, .int .i64 0, .int .i64 0, .slice none 0 0, .slice none 0 0, .int .u32 0, .int .u32 0, .int .u32 0]
theorem info_state : (Tryd.prog.info? 110).map (·.size) = some 8 := by kernel_rfl
theorem cells8_of {w : World} {g : Nat} {t : TypeId} {v0 v1 v2 v3 v4 v5 v6 v7 : Value} (h : w.heap[g]? = some (.cells #[v0, v1, v2, v3, v4, v5, v6, v7] t (0, 0))) :
    w.cell? ⟨g, 0, none⟩ = some v0 ∧ w.cell? ⟨g, 1, none⟩ = some v1 ∧ w.cell? ⟨g, 2, none⟩ = some v2 ∧ w.cell? ⟨g, 3, none⟩ = some v3 ∧ w.cell? ⟨g, 4, none⟩ = some v4 ∧ w.cell? ⟨g, 5, none⟩ = some v5 ∧ w.cell? ⟨g, 6, none⟩ = some v6 ∧ w.cell? ⟨g, 7, none⟩ = some v7 ∧ w.frozen? ⟨g, 0, none⟩ = false :=
  ⟨cell_of_row _ _ 0 _ _ _ h, cell_of_row _ _ 1 _ _ _ h, cell_of_row _ _ 2 _ _ _ h, cell_of_row _ _ 3 _ _ _ h, cell_of_row _ _ 4 _ _ _ h, cell_of_row _ _ 5 _ _ _ h, cell_of_row _ _ 6 _ _ _ h, cell_of_row _ _ 7 _ _ _ h, frozen_of_row _ _ _ _ _ h⟩
theorem load_state {w : World} {g : Nat} {X : Array Value} (h : w.heap[g]? = some (.cells X 110 (0, 0))) (hi : (Tryd.prog.info? 110).map (·.size) = some X.size) : (loadVar 110 ⟨g, 0, none⟩).run Tryd.prog w = .ok (.agg X) w :=
  run_loadVar_row (P := Tryd.prog) w g 110 110 X (0, 0) _ h Tryd.underlying110 rfl hi
/-- A load whose run is known, guarded or not. -/
theorem loadKnown {P : Program} {ops : Array Oper} {rest : List Oper} {o : Oper} {a : Act} {w : World} {Q : Exit → Act → World → Prop} (hgd : Region.wanted o (yielded ops a.tmps) = true) (ty : TypeId) (x : Operand) (ho : o.op = .load ty x) (ad : Addr) (hx : a.eval x = .pointer (some ad))
    (v : Value) (hl : (loadVar ty ad).run P w = .ok v w) (h : wpList P ops Q rest (a.put o.dst v) w) : wpList P ops Q (o :: rest) a w :=
  BigFrame.wpList_want hgd fun K hK => by
    unfold Oper.wp execOp
    simp only [ho, hx, Instr.loadAt, Instr.sureAddr, Sem.run_bind, Sem.run_pure, Result.andThen_ok, hl]
    exact hK _ _ h
theorem run_arrayAt (ad : Addr) (c : Nat) (w : World) : (Instr.arrayAt 152 (.slice (some ad) 128 c)).run Tryd.prog w = .ok (.pointer (some ad)) w := by
  unfold Instr.arrayAt
  simp [run_underlying Tryd.underlying152]
set_option maxRecDepth 20000 in
set_option maxHeartbeats 1000000 in
theorem blank_any (k : Nat) (A1 : Option Addr) (c1 : Nat) (ad : Addr) (c2 x y s : Nat) (b : Sh.Bs) (w : World) (hr : Reads w w.heap.size (some ad) 128 (bts b)) :
    Calls Tryd.prog 94 #[.agg #[.int .i64 (k : Int), .int .i64 ((sumOf k : Nat) : Int), .int .i64 ((dataOf k : Nat) : Int), .slice A1 128 c1, .slice (some ad) 128 c2, .int .u32 (x : Int), .int .u32 (y : Int), .int .u32 (s : Int)]] w fun e w' => e = .returned (.bool (decide (x = 0 ∧ y = 0) && decide (b = Sh.noughts))) ∧ Below w.heap.size w w' := by
  have hb : Below w.heap.size w (w.alloc (.cells #[.int .i64 (k : Int), .int .i64 ((sumOf k : Nat) : Int), .int .i64 ((dataOf k : Nat) : Int), .slice A1 128 c1, .slice (some ad) 128 c2, .int .u32 (x : Int), .int .u32 (y : Int), .int .u32 (s : Int)] 110)) := (Below.refl _ _).alloc (Nat.le_refl _) _
  have hl := hr.len
  have hp := pair_eql (w.alloc (.cells #[.int .i64 (k : Int), .int .i64 ((sumOf k : Nat) : Int), .int .i64 ((dataOf k : Nat) : Int), .slice A1 128 c1, .slice (some ad) 128 c2, .int .u32 (x : Int), .int .u32 (y : Int), .int .u32 (s : Int)] 110)) x y
  have he := arr_eql (w.alloc (.cells #[.int .i64 (k : Int), .int .i64 ((sumOf k : Nat) : Int), .int .i64 ((dataOf k : Nat) : Int), .slice A1 128 c1, .slice (some ad) 128 c2, .int .u32 (x : Int), .int .u32 (y : Int), .int .u32 (s : Int)] 110)) hl (show Sh.noughts.length = 128 from by simp [Sh.noughts])
  have hld := load_arr (hr.below hb)
  have hz := zero_bytes
  have hat := run_arrayAt ad c2
  have hzn := zcB_ne
  rw [← zcB_bts] at he
  have hq : (b == Sh.noughts) = decide (b = Sh.noughts) := by rw [Bool.eq_iff_iff, beq_iff_eq, decide_eq_true_iff]
  have hxy : decide (x = 0 ∧ y = 0) = (x == 0 && y == 0) := by rw [Bool.eq_iff_iff, decide_eq_true_iff, Bool.and_eq_true, beq_iff_eq, beq_iff_eq]
  rw [hq] at he
  rw [hxy]
  generalize decide (b = Sh.noughts) = q at *
  generalize (x == 0 && y == 0) = r at *
  have HB := Lib.hid hb
  clear hq hxy hb hr hl
  generalize (bts b).toArray = X at *
  generalize sumOf k = k1 at *
  generalize dataOf k = k2 at *
  cases r
  · go_enter Tryd.func94, Tryd.ntmps94
    go_wp2
    go_ret
    exact ⟨rfl, HB.out⟩
  · go_enter Tryd.func94, Tryd.ntmps94
    go_wp2_with (refine loadKnown (o := ⟨some 11, _, _, _, _, _⟩) (by rfl) 152 (.tmp 10) rfl ad rfl (.agg X) hld ?_)
    go_ret
    exact ⟨rfl, HB.out⟩
set_option maxRecDepth 20000 in
set_option maxHeartbeats 1000000 in
theorem good_any (k : Nat) (A1 : Option Addr) (c1 : Nat) (ad : Addr) (c2 x y s : Nat) (b : Sh.Bs) (w : World) (hr : Reads w w.heap.size (some ad) 128 (bts b)) :
    Calls Tryd.prog 65 #[.agg (stV k A1 c1 (some ad) c2 x y s)] w fun e w' => e = .returned (.bool (goodB s x y b)) ∧ Below w.heap.size w w' := by
  have hb : Below w.heap.size w (w.alloc (.cells (stV k A1 c1 (some ad) c2 x y s) 110)) := (Below.refl _ _).alloc (Nat.le_refl _) _
  have hrow : (w.alloc (.cells (stV k A1 c1 (some ad) c2 x y s) 110)).heap[w.heap.size]? = some (.cells (stV k A1 c1 (some ad) c2 x y s) 110 (0, 0)) := heap_alloc_new _ _
  have hz : (w.alloc (.cells (stV k A1 c1 (some ad) c2 x y s) 110)).heap.size = w.heap.size + 1 := by simp
  have hbk := Lib.hid (blank_any k A1 c1 ad c2 x y s b _ ((hr.below hb).more hb.size))
  have HB := Lib.hid hb
  have Hz := Lib.hid hz
  have hld := load_state hrow info_state
  clear hb hr hz hrow
  unfold stV at *
  unfold goodB
  generalize sumOf k = k1 at *
  generalize dataOf k = k2 at *
  by_cases h1 : s = x
  · subst h1
    have hg : (decide (s = s) || (decide (s = y) || (decide (s = 0 ∧ y = 0) && decide (b = Sh.noughts)))) = true := by simp
    rw [hg]
    clear hg hbk
    go_enter Tryd.func65, Tryd.ntmps65
    go_wp2
    go_ret
    exact ⟨rfl, HB.out⟩
  · have q1 : ((s : Int) == (x : Int)) = false := by rw [beq_eq_false_iff_ne]; omega
    by_cases h2 : s = y
    · subst h2
      have hg : (decide (s = x) || (decide (s = s) || (decide (x = 0 ∧ s = 0) && decide (b = Sh.noughts)))) = true := by simp
      rw [hg]
      clear hg hbk h1
      go_enter Tryd.func65, Tryd.ntmps65
      go_wp2
      go_ret
      exact ⟨rfl, HB.out⟩
    · have q2 : ((s : Int) == (y : Int)) = false := by rw [beq_eq_false_iff_ne]; omega
      have hg : (decide (s = x) || (decide (s = y) || (decide (x = 0 ∧ y = 0) && decide (b = Sh.noughts)))) = (decide (x = 0 ∧ y = 0) && decide (b = Sh.noughts)) := by simp [h1, h2]
      rw [hg]
      clear hg h1 h2
      generalize (decide (x = 0 ∧ y = 0) && decide (b = Sh.noughts)) = r at *
      go_enter Tryd.func65, Tryd.ntmps65
      go_wp2_with (go_at_call 94; refine hbk.out.mono ?_; rintro e w' ⟨rfl, hb2⟩)
      go_ret
      exact ⟨rfl, HB.out.trans (hb2.mono (by rw [Hz.out]; omega))⟩
end Go.Proofs.YtjdjpafnakhpcaaDoor.U
