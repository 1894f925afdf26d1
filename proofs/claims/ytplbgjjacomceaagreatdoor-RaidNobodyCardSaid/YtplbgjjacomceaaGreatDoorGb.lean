/-
  super: Right, Encode.
  Conditions: each theorem's own.
-/
import Derived.Test.YtplbgjjacomceaaGreatDoorGa
import Derived.ChangeKeysEq
import Derived.Laws.StructEq
import Derived.Laws.BytesArg
import Derived.Lib.SlBytesConst
namespace Go.Proofs.YtplbgjjacomceaaGreatDoor.S
open Go.RowKit

theorem putL_succ (x n : Nat) : putL x (n + 1) = putL x n ++ [x / 2 ^ (8 * n) % 256] := by simp [putL, List.range_succ]
theorem getN_putL (x n : Nat) : getN (putL x n) = x % 2 ^ (8 * n) := by
  induction n with
  | zero => simp [putL, getN, Nat.mod_one]
  | succ n ih =>
    rw [putL_succ, getN_snoc, putL_length, ih, show 8 * (n + 1) = 8 * n + 8 by omega, Nat.pow_add, Nat.mod_mul]
    rw [Nat.mul_comm (2 ^ (8 * n))]
theorem putL_small (x n : Nat) : Small (putL x n) := by
  intro y hy
  simp only [putL, List.mem_map] at hy
  obtain ⟨i, _, rfl⟩ := hy
  exact Nat.mod_lt _ (by decide)
theorem putL_inj {x y n : Nat} (hx : x < 2 ^ (8 * n)) (hy : y < 2 ^ (8 * n)) (h : putL x n = putL y n) : x = y := by
  have := congrArg getN h
  rwa [getN_putL, getN_putL, Nat.mod_eq_of_lt hx, Nat.mod_eq_of_lt hy] at this
theorem preTo_on (ns : List Nat) (j : Nat) : ∀ i, ∃ r, preTo ns (j + i) = preTo ns j ++ r
  | 0 => ⟨[], by simp⟩
  | i + 1 => by
    obtain ⟨r, hr⟩ := preTo_on ns j i
    refine ⟨r ++ putL (ns.getD (j + i) 0) (widL.getD (j + i) 0), ?_⟩
    rw [show j + (i + 1) = (j + i) + 1 from rfl, preTo, hr, List.append_assoc]
theorem encTo_take (ns : List Nat) : (encTo ns 8).take 124 = preTo ns 8 ++ List.replicate 96 0 := by
  have h : (preTo ns 8).length = 28 := preTo_length ns 8 (by decide)
  rw [encTo, List.take_append, List.take_of_length_le (by omega), h, List.take_replicate]
  rfl
theorem encL_length (ns : List Nat) : (encL ns).length = 128 := by
  show ((encTo ns 8).take 124 ++ putL _ 4).length = 128
  rw [List.length_append, List.length_take, encTo_length ns 8 (by decide), putL_length]
  rfl
theorem encL_small (ns : List Nat) : Small (encL ns) := by
  intro x hx
  rcases List.mem_append.1 hx with hx | hx
  · exact encTo_small ns 8 x (List.mem_of_mem_take hx)
  · exact putL_small _ _ x hx
/-- A number is where it was put. -/
theorem encL_cut (ns : List Nat) (j : Nat) (h : j < 8) : cutAt (encL ns) (offL.getD j 0) (widL.getD j 0) = putL (ns.getD j 0) (widL.getD j 0) := by
  obtain ⟨r, hr⟩ := preTo_on ns (j + 1) (8 - (j + 1))
  rw [show j + 1 + (8 - (j + 1)) = 8 by omega] at hr
  have h1 : (preTo ns j).length = offL.getD j 0 := preTo_length ns j (by omega)
  have e : encL ns = preTo ns j ++ (putL (ns.getD j 0) (widL.getD j 0) ++ (r ++ List.replicate 96 0 ++ putL (Nums.sum 0 ((encTo ns 8).take 124)) 4)) := by
    show (encTo ns 8).take 124 ++ _ = _
    rw [encTo_take, hr, preTo]
    simp only [List.append_assoc]
  unfold cutAt
  rw [e, List.drop_left' h1, List.take_left' (putL_length _ _)]
theorem encL_num (ns : List Nat) (j : Nat) (h : j < 8) (hb : ns.getD j 0 < 2 ^ (8 * widL.getD j 0)) : getN (cutAt (encL ns) (offL.getD j 0) (widL.getD j 0)) = ns.getD j 0 := by
  rw [encL_cut ns j h, getN_putL, Nat.mod_eq_of_lt hb]
/-- What a block's bytes say, be it right or not. -/
def numAt (l : List Nat) (j : Nat) : Nat := getN (cutAt l (offL.getD j 0) (widL.getD j 0))
def supOf (l : List Nat) : Sup :=
  ⟨IntKind.i64.wrap (numAt l 0 : Nat), (numAt l 1 : Nat), (numAt l 2 : Nat), (numAt l 5 : Nat), (numAt l 3 : Nat), IntKind.i8.wrap (numAt l 4 : Nat), (numAt l 6 : Nat), (numAt l 7 : Nat)⟩
theorem right_parts {s : Sup} (hr : s.right = true) : (1 ≤ s.gen ∧ s.gen ≤ 4611686018427387904) ∧ (3 ≤ s.mem ∧ s.mem ≤ 16) ∧ (0 ≤ s.disk ∧ s.disk ≤ s.mem) ∧ (1 ≤ s.str ∧ s.str ≤ 1024) ∧ (1 ≤ s.logs ∧ s.logs ≤ 8) ∧ (-1 ≤ s.spare ∧ s.spare ≤ s.mem - 1) ∧ (0 ≤ s.mark ∧ s.mark ≤ s.most) ∧ (0 ≤ s.cur ∧ s.cur ≤ s.str - 1) := by
  simp only [Sup.right, Bool.and_eq_true, decide_eq_true_eq] at hr
  obtain ⟨⟨⟨⟨⟨⟨⟨h1, h2⟩, h3⟩, h4⟩, h5⟩, h6⟩, h7⟩, h8⟩ := hr
  exact ⟨h1, h2, h3, h4, h5, h6, h7, h8⟩
theorem supOf_enc {s : Sup} (hr : s.right = true) : supOf (encL s.nums) = s := by
  obtain ⟨h1, h2, h3, h4, h5, h6, h7, h8⟩ := right_parts hr
  have hm : s.most ≤ 1024 := by unfold Sup.most; split <;> omega
  have n0 : numAt (encL s.nums) 0 = s.gen.toNat := encL_num s.nums 0 (by decide) (by show s.gen.toNat < 2 ^ 64; omega)
  have n1 : numAt (encL s.nums) 1 = s.mem.toNat := encL_num s.nums 1 (by decide) (by show s.mem.toNat < 2 ^ 8; omega)
  have n2 : numAt (encL s.nums) 2 = s.disk.toNat := encL_num s.nums 2 (by decide) (by show s.disk.toNat < 2 ^ 8; omega)
  have n3 : numAt (encL s.nums) 3 = s.logs.toNat := encL_num s.nums 3 (by decide) (by show s.logs.toNat < 2 ^ 8; omega)
  have n4 : numAt (encL s.nums) 4 = (s.spare % 256).toNat := encL_num s.nums 4 (by decide) (by show (s.spare % 256).toNat < 2 ^ 8; omega)
  have n5 : numAt (encL s.nums) 5 = s.str.toNat := encL_num s.nums 5 (by decide) (by show s.str.toNat < 2 ^ 32; omega)
  have n6 : numAt (encL s.nums) 6 = s.mark.toNat := encL_num s.nums 6 (by decide) (by show s.mark.toNat < 2 ^ 32; omega)
  have n7 : numAt (encL s.nums) 7 = s.cur.toNat := encL_num s.nums 7 (by decide) (by show s.cur.toNat < 2 ^ 32; omega)
  unfold supOf
  rw [n0, n1, n2, n3, n4, n5, n6, n7]
  have e0 : IntKind.i64.wrap ((s.gen.toNat : Nat) : Int) = s.gen := by rw [IntKind.wrap_i64]; omega
  have e4 : IntKind.i8.wrap (((s.spare % 256).toNat : Nat) : Int) = s.spare := by
    simp [IntKind.wrap, IntKind.bits, IntKind.signed]
    omega
  have e1 : ((s.mem.toNat : Nat) : Int) = s.mem := by omega
  have e2 : ((s.disk.toNat : Nat) : Int) = s.disk := by omega
  have e3 : ((s.logs.toNat : Nat) : Int) = s.logs := by omega
  have e5 : ((s.str.toNat : Nat) : Int) = s.str := by omega
  have e6 : ((s.mark.toNat : Nat) : Int) = s.mark := by omega
  have e7 : ((s.cur.toNat : Nat) : Int) = s.cur := by omega
  rw [e0, e1, e2, e3, e4, e5, e6, e7]
/-- A block of which one byte is another one is no block. -/
theorem enc_turned (ns ms : List Nat) (i v : Nat) (hi : i < 128) (hv : v < 256) (hne : v ≠ (encL ns).getD i 0) : encL ms ≠ (encL ns).set i v := by
  intro h
  have hl : ∀ ks, ((encTo ks 8).take 124).length = 124 := fun ks => by rw [List.length_take, encTo_length ks 8 (by decide)]; rfl
  have hs : ∀ ks, Small ((encTo ks 8).take 124) := fun ks => (encTo_small ks 8).take 124
  have e1 : encL ms = (encTo ms 8).take 124 ++ putL (Nums.sum 0 ((encTo ms 8).take 124)) 4 := rfl
  have e2 : encL ns = (encTo ns 8).take 124 ++ putL (Nums.sum 0 ((encTo ns 8).take 124)) 4 := rfl
  rw [e1, e2] at h
  rw [e2] at hne
  have q1 := hl ns
  have q2 := hl ms
  have s1 := hs ns
  have s2 := hs ms
  generalize (encTo ns 8).take 124 = c at *
  generalize (encTo ms 8).take 124 = c' at *
  by_cases h124 : i < 124
  · rw [List.set_append_left _ _ (by omega)] at h
    obtain ⟨hc, hp⟩ := List.append_inj h (by rw [List.length_set]; omega)
    have hsum := putL_inj (sum_lt s2) (sum_lt s1) hp
    have hne2 : v ≠ c.getD i 0 := by
      intro e; apply hne
      rw [e, List.getD, List.getD, List.getElem?_append_left (by omega)]
    have := Nums.sum_set_ne s1 (s := 0) (by decide) i (by omega) v hv hne2
    rw [hc] at hsum
    exact this hsum.symm
  · rw [List.set_append_right _ _ (by omega)] at h
    obtain ⟨hc, hp⟩ := List.append_inj h (by omega)
    subst hc
    have e : (putL (Nums.sum 0 c') 4).getD (i - c'.length) 0 = ((putL (Nums.sum 0 c') 4).set (i - c'.length) v).getD (i - c'.length) 0 := congrArg (fun l => l.getD (i - c'.length) 0) hp
    have hlt : i - c'.length < (putL (Nums.sum 0 c') 4).length := by rw [putL_length]; omega
    apply hne
    rw [List.getD, List.getElem?_append_right (by omega)]
    have e3 : ((putL (Nums.sum 0 c') 4).set (i - c'.length) v).getD (i - c'.length) 0 = v := by
      rw [List.getD, List.getElem?_set_self hlt]; rfl
    rw [e3] at e
    rw [← e]; rfl
end Go.Proofs.YtplbgjjacomceaaGreatDoor.S
namespace Go.Proofs.YtplbgjjacomceaaGreatDoor.S
open Go.RowKit

theorem u8_plain : Tryz.prog.plainKey 5 = true := by kernel_rfl
theorem cells_u8 : Tryz.prog.cellsOf 5 = 1 := by kernel_rfl
theorem eqItems_bytes (w : World) (d : Nat) (l k : List Nat) : ∀ is : List Nat, (∀ i ∈ is, i < l.length ∧ i < k.length) →
    (Op.eqItems (d + 1) 5 1 (bts l).toArray (bts k).toArray is).run Tryz.prog w = .ok (is.all fun i => l.getD i 0 == k.getD i 0) w
  | [], _ => by simp [Op.eqItems]
  | i :: is, h => by
    have h1 := h i (by simp)
    have a : (bts l).toArray[i * 1]? = some (.int .u8 ((l.getD i 0 : Nat) : Int)) := by rw [Nat.mul_one, List.getElem?_toArray]; exact bts_get l i h1.1
    have b : (bts k).toArray[i * 1]? = some (.int .u8 ((k.getD i 0 : Nat) : Int)) := by rw [Nat.mul_one, List.getElem?_toArray]; exact bts_get k i h1.2
    have p1 := run_part_plain (P := Tryz.prog) (w := w) u8_plain a
    have p2 := run_part_plain (P := Tryz.prog) (w := w) u8_plain b
    have ih := eqItems_bytes w d l k is (fun j hj => h j (List.mem_cons_of_mem _ hj))
    have e1 := run_equalIn_int (P := Tryz.prog) w d 5 .u8 .u8 ((l.getD i 0 : Nat) : Int) ((k.getD i 0 : Nat) : Int) Tryz.underlying5
    have e2 : (((l.getD i 0 : Nat) : Int) == ((k.getD i 0 : Nat) : Int)) = (l.getD i 0 == k.getD i 0) := by
      rw [Bool.eq_iff_iff, beq_iff_eq, beq_iff_eq]; omega
    rw [e2] at e1
    simp only [Op.eqItems, Sem.run_bind, p1, p2, e1, Result.andThen_ok, List.all_cons]
    by_cases hq : (l.getD i 0 == k.getD i 0) = true
    · rw [hq]
      simpa using ih
    · rw [Bool.not_eq_true] at hq
      rw [hq]
      simp
theorem all_eq {l k : List Nat} (hl : l.length = 128) (hk : k.length = 128) : ((List.range 128).all fun i => l.getD i 0 == k.getD i 0) = (l == k) := by
  rw [Bool.eq_iff_iff, beq_iff_eq, List.all_eq_true]
  constructor
  · intro h
    apply List.ext_getElem (by omega)
    intro i h1 h2
    have := h i (List.mem_range.2 (by omega))
    rw [beq_iff_eq] at this
    simpa [List.getD, List.getElem?_eq_getElem h1, List.getElem?_eq_getElem h2] using this
  · rintro rfl i _
    simp
set_option maxRecDepth 100000 in
theorem block_fields : Tryz.prog.fieldsOf 120 = (match Tryz.prog.underlying 120 with | some (.struct fs) => fs | _ => #[]) := rfl
theorem block_struct : Tryz.prog.underlying 120 = some (.struct (Tryz.prog.fieldsOf 120)) := by
  rw [block_fields, Tryz.underlying120]
theorem block_held : Tryz.prog.stoodInHeld 120 = false := by kernel_rfl
theorem info_arr : ∃ i, Tryz.prog.info? 5 = some i := info_of_underlying Tryz.underlying5
theorem arr_equal (w : World) (d : Nat) {l k : List Nat} (hl : l.length = 128) (hk : k.length = 128) :
    (Op.equalIn (d + 2) 118 (.agg (bts l).toArray) (.agg (bts k).toArray)).run Tryz.prog w = .ok (l == k) w := by
  obtain ⟨i, hi⟩ := info_arr
  rw [run_equalIn_array w (d + 1) (bts l).toArray (bts k).toArray Tryz.underlying118 hi, cells_u8, eqItems_bytes w d l k (List.range 128) (fun j hj => by have := List.mem_range.1 hj; omega), all_eq hl hk]
theorem info_128 : (Tryz.prog.info? 118).map (·.size) = some 128 := by kernel_rfl
theorem block_part (w : World) {l : List Nat} (hl : l.length = 128) : (part 118 (bts l).toArray 0).run Tryz.prog w = .ok (.agg (bts l).toArray) w := by
  obtain ⟨i, hi⟩ := info_of_underlying (P := Tryz.prog) Tryz.underlying118
  have hsz : Tryz.prog.cellsOf 118 = 128 := by kernel_rfl
  have e : (bts l).toArray.extract 0 128 = (bts l).toArray := by
    have : (bts l).toArray.size = 128 := by rw [List.size_toArray, bts_length, hl]
    rw [← this, Array.extract_size]
  have e2 : List.take 128 (bts l) = bts l := List.take_of_length_le (by rw [bts_length, hl]; exact Nat.le_refl _)
  have h0 : (isAgg 118).run Tryz.prog w = .ok true w := by simp [isAgg, run_underlying Tryz.underlying118]
  have h1 : (sizeOf 118).run Tryz.prog w = .ok 128 w := by rw [run_sizeOf w hi, hsz]
  unfold part
  simp only [Sem.run_bind, h0, h1, Result.andThen_ok, if_true, Nat.zero_add, e, Sem.run_pure]
theorem eqFields_one {P : Program} (w : World) (d : Nat) (xs ys : Array Value) (f : Field) (hn : f.name ≠ "_") {a b : Value} {r : Bool} (ha : (part f.type xs f.offset).run P w = .ok a w) (hb : (part f.type ys f.offset).run P w = .ok b w)
    (he : (Op.equalIn d f.type a b).run P w = .ok r w) : (Op.eqFields d xs ys [f]).run P w = .ok r w := by
  simp only [Op.eqFields, hn, ne_eq, not_false_eq_true, if_true, Sem.run_bind, ha, hb, he, Result.andThen_ok]
  cases r <;> simp
theorem block_fields2 : ∃ f : Field, f.name = "bytes" ∧ f.type = 118 ∧ f.offset = 0 ∧ (Tryz.prog.fieldsOf 120).toList = [f] := by
  rw [block_fields, Tryz.underlying120]
  exact ⟨_, rfl, rfl, rfl, rfl⟩
theorem block_equal (w : World) (d : Nat) {l k : List Nat} (hl : l.length = 128) (hk : k.length = 128) :
    (Op.equalIn (d + 3) 120 (.agg (bts l).toArray) (.agg (bts k).toArray)).run Tryz.prog w = .ok (l == k) w := by
  refine (run_equalIn_struct w (d + 2) 120 _ _ block_struct block_held).trans ?_
  obtain ⟨f, h1, h2, h3, h4⟩ := block_fields2
  rw [h4]
  exact eqFields_one w (d + 2) _ _ f (by rw [h1]; decide) (by rw [h2, h3]; exact block_part w hl) (by rw [h2, h3]; exact block_part w hk) (by rw [h2]; exact arr_equal w d hl hk)
theorem block_neq (w : World) {l k : List Nat} (hl : l.length = 128) (hk : k.length = 128) :
    (binOp .neq 120 (.agg (bts l).toArray) (.agg (bts k).toArray)).run Tryz.prog w = .ok (.bool (!(l == k))) w := by
  refine (run_neq_struct w 120 _ _).trans ?_
  have h := block_equal w 9997 hl hk
  have h2 : (Op.equalIn 10000 120 (.agg (bts l).toArray) (.agg (bts k).toArray)).run Tryz.prog w = .ok (l == k) w := h
  rw [h2]
  rfl
end Go.Proofs.YtplbgjjacomceaaGreatDoor.S
namespace Go.Proofs.YtplbgjjacomceaaGreatDoor
open Go.RowKit

/-- The text of bytes. -/
def strL (l : List Nat) : ByteArray := strOfNums (l.map fun (x : Nat) => (x : Int))
theorem bts_ints (l : List Nat) : bts l = (l.map fun (x : Nat) => (x : Int)).map (Value.int .u8) := by simp [bts]
theorem run_str {w : World} {B n : Nat} {A : Option Addr} {l : List Nat} (c : Nat) (hr : Reads w B A n (bts l)) :
    (convert 45 9 (.slice A n c)).run Tryz.prog w = .ok (.string (strL l)) w := by
  have hlen := hr.len
  rcases A with _ | ad
  · have hn : n = 0 := by
      rcases Nat.eq_zero_or_pos n with h | h
      · exact h
      · obtain ⟨ad, e, _⟩ := hr.2 h; cases e
    subst hn
    have hl : l = [] := List.eq_nil_of_length_eq_zero hlen
    subst hl
    exact run_convert_bytes_nil (P := Tryz.prog) w 45 5 Tryz.underlying45 Tryz.underlying5 0 c 9 Tryz.underlying9
  · have hcells : ∀ j v, (bts l)[j]? = some v → w.cell? (ad.add j) = some v := by
      intro j v hj
      rcases Nat.eq_zero_or_pos n with h | h
      · have hl : l = [] := List.eq_nil_of_length_eq_zero (by omega)
        subst hl
        simp [bts] at hj
      · obtain ⟨ad', e, _, hc⟩ := hr.2 h
        injection e with e
        subst e
        exact hc j v hj
    have hl : (loadCells ad n).run Tryz.prog w = .ok ((l.map fun (x : Nat) => (x : Int)).map (Value.int .u8)).toArray w := by
      have := run_loadCells_list (P := Tryz.prog) w ad (bts l) hcells
      rw [bts_length, hlen, bts_ints] at this
      exact this
    rw [run_convert_bytes_string w 45 9 5 _ n c Tryz.underlying45 Tryz.underlying5 Tryz.underlying9, run_bytesToString w _ n c _ hl, foldl_push_bytes]
    simp [strL, strOfNums, ByteArray.empty, ByteArray.emptyWithCapacity]
    rfl
theorem reads_on {w : World} {A : Option Addr} {n : Nat} {xs : List Value} (h : Reads w w.heap.size A n xs) (o : Obj) : Reads (w.alloc o) (w.alloc o).heap.size A n xs :=
  (h.alloc (Nat.le_refl _) o).more (by simp)
theorem reads_over {w w' : World} {A : Option Addr} {n : Nat} {xs : List Value} (h : Reads w w.heap.size A n xs) (hb : Below w.heap.size w w') : Reads w' w'.heap.size A n xs :=
  (h.below hb).more hb.size
theorem below_on {w w1 w2 : World} (h : Below w.heap.size w w1) (k : Below w1.heap.size w1 w2) : Below w.heap.size w w2 := h.trans (k.mono h.size)
theorem strL_data (l : List Nat) : (strL l).data.toList = l.map fun x => UInt8.ofNat x := by
  unfold strL strOfNums
  simp [Function.comp_def]
theorem strL_inj {l k : List Nat} (hl : Small l) (hk : Small k) (h : strL l = strL k) : l = k := by
  have e : l.map (fun x => UInt8.ofNat x) = k.map (fun x => UInt8.ofNat x) := by rw [← strL_data, ← strL_data, h]
  have e2 := congrArg (List.map UInt8.toNat) e
  rw [List.map_map, List.map_map] at e2
  have f : ∀ m : List Nat, Small m → m.map (UInt8.toNat ∘ fun x => UInt8.ofNat x) = m := fun m hm => by
    conv => rhs; rw [← List.map_id m]
    apply List.map_congr_left
    intro x hx
    have := hm x hx
    simp [Nat.mod_eq_of_lt this]
  rw [f l hl, f k hk] at e2
  exact e2
end Go.Proofs.YtplbgjjacomceaaGreatDoor
namespace Go.Proofs.YtplbgjjacomceaaGreatDoor.S
open Go.RowKit

set_option maxRecDepth 100000 in
set_option maxHeartbeats 4000000 in
theorem right_no7 (s : Sup) (w : World) (h1 : (1 ≤ s.gen ∧ s.gen ≤ 4611686018427387904)) (h2 : (3 ≤ s.mem ∧ s.mem ≤ 16)) (h3 : (0 ≤ s.disk ∧ s.disk ≤ s.mem)) (h4 : (1 ≤ s.str ∧ s.str ≤ 1024)) (h5 : (1 ≤ s.logs ∧ s.logs ≤ 8)) (h6 : (-1 ≤ s.spare ∧ s.spare ≤ s.mem - 1)) (h7 : ¬ (0 ≤ s.mark ∧ s.mark ≤ s.most)) :
    Calls Tryz.prog 73 #[s.val] w fun e w' => e = .returned (.bool false) ∧ Below w.heap.size w w' := by
  have hm := Lib.hid (fun w => mostMark_any s w)
  have Q := Lib.hid within_yes
  have QF := Lib.hid within_not
  have w1 : IntKind.i64.wrap (s.mem - 1) = s.mem - 1 := by rw [IntKind.wrap_i64]; omega
  have hblk := heap_alloc_last w (.cells s.cells 65)
  have hK := row8 hblk
  clear hblk
  obtain ⟨x0, x1, x2, x3, x4, x5, x6, x7⟩ := s
  simp only [Sup.val, Sup.cells] at *
  go_enter Tryz.func73, Tryz.ntmps73
  have hbW : Below w.heap.size w (w.alloc (.cells #[.int .i64 x0, .int .i64 x1, .int .i64 x2, .int .i64 x3, .int .i64 x4, .int .i64 x5, .int .i64 x6, .int .i64 x7] 65)) := (Below.refl _ _).alloc (Nat.le_refl _) _
  have hgW : w.heap.size < (w.alloc (.cells #[.int .i64 x0, .int .i64 x1, .int .i64 x2, .int .i64 x3, .int .i64 x4, .int .i64 x5, .int .i64 x6, .int .i64 x7] 65)).heap.size := by simp
  generalize Sup.most ⟨x0, x1, x2, x3, x4, x5, x6, x7⟩ = mm at *
  go_wp2_with fail
  generalize w.alloc (.cells #[.int .i64 x0, .int .i64 x1, .int .i64 x2, .int .i64 x3, .int .i64 x4, .int .i64 x5, .int .i64 x6, .int .i64 x7] 65) = W at *
  generalize hgs : w.heap.size = g at *
  have Hgs := Lib.hid hgs
  clear hgs
  have hk : ∀ i W', Below W.heap.size W W' → W'.cell? ⟨g, i, none⟩ = W.cell? ⟨g, i, none⟩ := fun i W' hb => hb.cell (p := ⟨g, i, none⟩) hgW
  have k0 := fun W' (h : Below W.heap.size W W') => (hk 0 W' h).trans hK.1
  have k1 := fun W' (h : Below W.heap.size W W') => (hk 1 W' h).trans hK.2.1
  have k2 := fun W' (h : Below W.heap.size W W') => (hk 2 W' h).trans hK.2.2.1
  have k3 := fun W' (h : Below W.heap.size W W') => (hk 3 W' h).trans hK.2.2.2.1
  have k4 := fun W' (h : Below W.heap.size W W') => (hk 4 W' h).trans hK.2.2.2.2.1
  have k5 := fun W' (h : Below W.heap.size W W') => (hk 5 W' h).trans hK.2.2.2.2.2.1
  have k6 := fun W' (h : Below W.heap.size W W') => (hk 6 W' h).trans hK.2.2.2.2.2.2.1
  have k7 := fun W' (h : Below W.heap.size W W') => (hk 7 W' h).trans hK.2.2.2.2.2.2.2
  clear hk hK
  have HbW := Lib.hid (hbW.mono (Nat.le_refl g))
  have hgW2 := Lib.hid (Nat.le_of_lt hgW)
  clear hbW hgW
  refine wp_region_held_drew (S := fun W' => Below W.heap.size W W') (by kernel_rfl) ((Below.refl _ _).drew) (fun hHeld => ?_)
  refine wpAnyH_take (i := 0) (oi := ⟨some 3, _, _, _, _, _⟩) (v := ?_) rfl (by kernel_rfl) (by kernel_rfl) (by kernel_rfl) (fun _ _ _ h => h) (Or.inl ⟨by rfl, ?_⟩) (by assumption) ?_
  rotate_left
  · (intro w hSw; (try dsimp only at hSw); go_simp; first | done | with_reducible rfl)
  try simp only [Act.put, List.setIfInBounds_toArray, List.set_cons_zero, List.set_cons_succ]
  refine wpAnyH_take (i := 1) (oi := ⟨some 4, _, _, _, _, _⟩) (v := ?_) rfl (by kernel_rfl) (by kernel_rfl) (by kernel_rfl) (fun _ _ _ h => h) (Or.inl ⟨by rfl, ?_⟩) (by assumption) ?_
  rotate_left
  · (intro w hSw; (try dsimp only at hSw); go_simp; first | done | with_reducible rfl)
  try simp only [Act.put, List.setIfInBounds_toArray, List.set_cons_zero, List.set_cons_succ]
  refine wpAnyH_ready (rs := [2]) (by kernel_rfl) (by simp) ?_
  refine AllReadyH.cons (o := ⟨some 5, _, _, _, _, _⟩) rfl (fun K hK => ?_) AllReadyH.nil
  go_simp
  refine (Q.out _ _ _ h1 _).mono ?_
  rintro e w9 ⟨rfl, rfl⟩
  refine hK.out _ _ (hHeld) (fun hHeld => ?_)
  clear hK K
  try simp only [Act.put, List.setIfInBounds_toArray, List.set_cons_zero, List.set_cons_succ]
  refine wpAnyH_take (i := 3) (oi := ⟨some 6, _, _, _, _, _⟩) (v := ?_) rfl (by kernel_rfl) (by kernel_rfl) (by kernel_rfl) (fun _ _ _ h => h) (Or.inl ⟨by rfl, ?_⟩) (by assumption) ?_
  rotate_left
  · (intro w hSw; (try dsimp only at hSw); go_simp; first | done | with_reducible rfl)
  try simp only [Act.put, List.setIfInBounds_toArray, List.set_cons_zero, List.set_cons_succ]
  refine wpAnyH_take (i := 4) (oi := ⟨some 7, _, _, _, _, _⟩) (v := ?_) rfl (by kernel_rfl) (by kernel_rfl) (by kernel_rfl) (fun _ _ _ h => h) (Or.inl ⟨by rfl, ?_⟩) (by assumption) ?_
  rotate_left
  · (intro w hSw; (try dsimp only at hSw); go_simp; first | done | with_reducible rfl)
  try simp only [Act.put, List.setIfInBounds_toArray, List.set_cons_zero, List.set_cons_succ]
  refine wpAnyH_take (i := 5) (oi := ⟨some 8, _, _, _, _, _⟩) (v := ?_) rfl (by kernel_rfl) (by kernel_rfl) (by kernel_rfl) (fun _ _ _ h => h) (Or.inl ⟨by rfl, ?_⟩) (by assumption) ?_
  rotate_left
  · (intro w hSw; (try dsimp only at hSw); go_simp; first | done | with_reducible rfl)
  try simp only [Act.put, List.setIfInBounds_toArray, List.set_cons_zero, List.set_cons_succ]
  refine wpAnyH_ready (rs := [6]) (by kernel_rfl) (by simp) ?_
  refine AllReadyH.cons (o := ⟨some 9, _, _, _, _, _⟩) rfl (fun K hK => ?_) AllReadyH.nil
  go_simp
  refine (Q.out _ _ _ h2 _).mono ?_
  rintro e w9 ⟨rfl, rfl⟩
  refine hK.out _ _ (hHeld) (fun hHeld => ?_)
  clear hK K
  try simp only [Act.put, List.setIfInBounds_toArray, List.set_cons_zero, List.set_cons_succ]
  refine wpAnyH_take (i := 7) (oi := ⟨some 10, _, _, _, _, _⟩) (v := ?_) rfl (by kernel_rfl) (by kernel_rfl) (by kernel_rfl) (fun _ _ _ h => h) (Or.inl ⟨by rfl, ?_⟩) (by assumption) ?_
  rotate_left
  · (intro w hSw; (try dsimp only at hSw); go_simp; first | done | with_reducible rfl)
  try simp only [Act.put, List.setIfInBounds_toArray, List.set_cons_zero, List.set_cons_succ]
  refine wpAnyH_take (i := 8) (oi := ⟨some 11, _, _, _, _, _⟩) (v := ?_) rfl (by kernel_rfl) (by kernel_rfl) (by kernel_rfl) (fun _ _ _ h => h) (Or.inl ⟨by rfl, ?_⟩) (by assumption) ?_
  rotate_left
  · (intro w hSw; (try dsimp only at hSw); go_simp; first | done | with_reducible rfl)
  try simp only [Act.put, List.setIfInBounds_toArray, List.set_cons_zero, List.set_cons_succ]
  refine wpAnyH_take (i := 9) (oi := ⟨some 12, _, _, _, _, _⟩) (v := ?_) rfl (by kernel_rfl) (by kernel_rfl) (by kernel_rfl) (fun _ _ _ h => h) (Or.inl ⟨by rfl, ?_⟩) (by assumption) ?_
  rotate_left
  · (intro w hSw; (try dsimp only at hSw); go_simp; first | done | with_reducible rfl)
  try simp only [Act.put, List.setIfInBounds_toArray, List.set_cons_zero, List.set_cons_succ]
  refine wpAnyH_take (i := 10) (oi := ⟨some 13, _, _, _, _, _⟩) (v := ?_) rfl (by kernel_rfl) (by kernel_rfl) (by kernel_rfl) (fun _ _ _ h => h) (Or.inl ⟨by rfl, ?_⟩) (by assumption) ?_
  rotate_left
  · (intro w hSw; (try dsimp only at hSw); go_simp; first | done | with_reducible rfl)
  try simp only [Act.put, List.setIfInBounds_toArray, List.set_cons_zero, List.set_cons_succ]
  refine wpAnyH_take (i := 11) (oi := ⟨some 14, _, _, _, _, _⟩) (v := ?_) rfl (by kernel_rfl) (by kernel_rfl) (by kernel_rfl) (fun _ _ _ h => h) (Or.inl ⟨by rfl, ?_⟩) (by assumption) ?_
  rotate_left
  · (intro w hSw; (try dsimp only at hSw); go_simp; first | done | with_reducible rfl)
  try simp only [Act.put, List.setIfInBounds_toArray, List.set_cons_zero, List.set_cons_succ]
  refine wpAnyH_take (i := 12) (oi := ⟨some 15, _, _, _, _, _⟩) (v := ?_) rfl (by kernel_rfl) (by kernel_rfl) (by kernel_rfl) (fun _ _ _ h => h) (Or.inl ⟨by rfl, ?_⟩) (by assumption) ?_
  rotate_left
  · (intro w hSw; (try dsimp only at hSw); go_simp; first | done | with_reducible rfl)
  try simp only [Act.put, List.setIfInBounds_toArray, List.set_cons_zero, List.set_cons_succ]
  refine wpAnyH_ready (rs := [13]) (by kernel_rfl) (by simp) ?_
  refine AllReadyH.cons (o := ⟨some 16, _, _, _, _, _⟩) rfl (fun K hK => ?_) AllReadyH.nil
  go_simp
  refine (Q.out _ _ _ h3 _).mono ?_
  rintro e w9 ⟨rfl, rfl⟩
  refine hK.out _ _ (hHeld) (fun hHeld => ?_)
  clear hK K
  try simp only [Act.put, List.setIfInBounds_toArray, List.set_cons_zero, List.set_cons_succ]
  refine wpAnyH_take (i := 14) (oi := ⟨some 17, _, _, _, _, _⟩) (v := ?_) rfl (by kernel_rfl) (by kernel_rfl) (by kernel_rfl) (fun _ _ _ h => h) (Or.inl ⟨by rfl, ?_⟩) (by assumption) ?_
  rotate_left
  · (intro w hSw; (try dsimp only at hSw); go_simp; first | done | with_reducible rfl)
  try simp only [Act.put, List.setIfInBounds_toArray, List.set_cons_zero, List.set_cons_succ]
  refine wpAnyH_take (i := 15) (oi := ⟨some 18, _, _, _, _, _⟩) (v := ?_) rfl (by kernel_rfl) (by kernel_rfl) (by kernel_rfl) (fun _ _ _ h => h) (Or.inl ⟨by rfl, ?_⟩) (by assumption) ?_
  rotate_left
  · (intro w hSw; (try dsimp only at hSw); go_simp; first | done | with_reducible rfl)
  try simp only [Act.put, List.setIfInBounds_toArray, List.set_cons_zero, List.set_cons_succ]
  refine wpAnyH_take (i := 16) (oi := ⟨some 19, _, _, _, _, _⟩) (v := ?_) rfl (by kernel_rfl) (by kernel_rfl) (by kernel_rfl) (fun _ _ _ h => h) (Or.inl ⟨by rfl, ?_⟩) (by assumption) ?_
  rotate_left
  · (intro w hSw; (try dsimp only at hSw); go_simp; first | done | with_reducible rfl)
  try simp only [Act.put, List.setIfInBounds_toArray, List.set_cons_zero, List.set_cons_succ]
  refine wpAnyH_take (i := 17) (oi := ⟨some 20, _, _, _, _, _⟩) (v := ?_) rfl (by kernel_rfl) (by kernel_rfl) (by kernel_rfl) (fun _ _ _ h => h) (Or.inl ⟨by rfl, ?_⟩) (by assumption) ?_
  rotate_left
  · (intro w hSw; (try dsimp only at hSw); go_simp; first | done | with_reducible rfl)
  try simp only [Act.put, List.setIfInBounds_toArray, List.set_cons_zero, List.set_cons_succ]
  refine wpAnyH_ready (rs := [18]) (by kernel_rfl) (by simp) ?_
  refine AllReadyH.cons (o := ⟨some 21, _, _, _, _, _⟩) rfl (fun K hK => ?_) AllReadyH.nil
  go_simp
  refine (Q.out _ _ _ h4 _).mono ?_
  rintro e w9 ⟨rfl, rfl⟩
  refine hK.out _ _ (hHeld) (fun hHeld => ?_)
  clear hK K
  try simp only [Act.put, List.setIfInBounds_toArray, List.set_cons_zero, List.set_cons_succ]
  refine wpAnyH_take (i := 19) (oi := ⟨some 22, _, _, _, _, _⟩) (v := ?_) rfl (by kernel_rfl) (by kernel_rfl) (by kernel_rfl) (fun _ _ _ h => h) (Or.inl ⟨by rfl, ?_⟩) (by assumption) ?_
  rotate_left
  · (intro w hSw; (try dsimp only at hSw); go_simp; first | done | with_reducible rfl)
  try simp only [Act.put, List.setIfInBounds_toArray, List.set_cons_zero, List.set_cons_succ]
  refine wpAnyH_take (i := 20) (oi := ⟨some 23, _, _, _, _, _⟩) (v := ?_) rfl (by kernel_rfl) (by kernel_rfl) (by kernel_rfl) (fun _ _ _ h => h) (Or.inl ⟨by rfl, ?_⟩) (by assumption) ?_
  rotate_left
  · (intro w hSw; (try dsimp only at hSw); go_simp; first | done | with_reducible rfl)
  try simp only [Act.put, List.setIfInBounds_toArray, List.set_cons_zero, List.set_cons_succ]
  refine wpAnyH_take (i := 21) (oi := ⟨some 24, _, _, _, _, _⟩) (v := ?_) rfl (by kernel_rfl) (by kernel_rfl) (by kernel_rfl) (fun _ _ _ h => h) (Or.inl ⟨by rfl, ?_⟩) (by assumption) ?_
  rotate_left
  · (intro w hSw; (try dsimp only at hSw); go_simp; first | done | with_reducible rfl)
  try simp only [Act.put, List.setIfInBounds_toArray, List.set_cons_zero, List.set_cons_succ]
  refine wpAnyH_take (i := 22) (oi := ⟨some 25, _, _, _, _, _⟩) (v := ?_) rfl (by kernel_rfl) (by kernel_rfl) (by kernel_rfl) (fun _ _ _ h => h) (Or.inl ⟨by rfl, ?_⟩) (by assumption) ?_
  rotate_left
  · (intro w hSw; (try dsimp only at hSw); go_simp; first | done | with_reducible rfl)
  try simp only [Act.put, List.setIfInBounds_toArray, List.set_cons_zero, List.set_cons_succ]
  refine wpAnyH_ready (rs := [23]) (by kernel_rfl) (by simp) ?_
  refine AllReadyH.cons (o := ⟨some 26, _, _, _, _, _⟩) rfl (fun K hK => ?_) AllReadyH.nil
  go_simp
  refine (Q.out _ _ _ h5 _).mono ?_
  rintro e w9 ⟨rfl, rfl⟩
  refine hK.out _ _ (hHeld) (fun hHeld => ?_)
  clear hK K
  try simp only [Act.put, List.setIfInBounds_toArray, List.set_cons_zero, List.set_cons_succ]
  refine wpAnyH_take (i := 24) (oi := ⟨some 27, _, _, _, _, _⟩) (v := ?_) rfl (by kernel_rfl) (by kernel_rfl) (by kernel_rfl) (fun _ _ _ h => h) (Or.inl ⟨by rfl, ?_⟩) (by assumption) ?_
  rotate_left
  · (intro w hSw; (try dsimp only at hSw); go_simp; first | done | with_reducible rfl)
  try simp only [Act.put, List.setIfInBounds_toArray, List.set_cons_zero, List.set_cons_succ]
  refine wpAnyH_take (i := 25) (oi := ⟨some 28, _, _, _, _, _⟩) (v := ?_) rfl (by kernel_rfl) (by kernel_rfl) (by kernel_rfl) (fun _ _ _ h => h) (Or.inl ⟨by rfl, ?_⟩) (by assumption) ?_
  rotate_left
  · (intro w hSw; (try dsimp only at hSw); go_simp; first | done | with_reducible rfl)
  try simp only [Act.put, List.setIfInBounds_toArray, List.set_cons_zero, List.set_cons_succ]
  refine wpAnyH_take (i := 26) (oi := ⟨some 29, _, _, _, _, _⟩) (v := ?_) rfl (by kernel_rfl) (by kernel_rfl) (by kernel_rfl) (fun _ _ _ h => h) (Or.inl ⟨by rfl, ?_⟩) (by assumption) ?_
  rotate_left
  · (intro w hSw; (try dsimp only at hSw); go_simp; first | done | with_reducible rfl)
  try simp only [Act.put, List.setIfInBounds_toArray, List.set_cons_zero, List.set_cons_succ]
  refine wpAnyH_take (i := 27) (oi := ⟨some 30, _, _, _, _, _⟩) (v := ?_) rfl (by kernel_rfl) (by kernel_rfl) (by kernel_rfl) (fun _ _ _ h => h) (Or.inl ⟨by rfl, ?_⟩) (by assumption) ?_
  rotate_left
  · (intro w hSw; (try dsimp only at hSw); go_simp; first | done | with_reducible rfl)
  try simp only [Act.put, List.setIfInBounds_toArray, List.set_cons_zero, List.set_cons_succ]
  refine wpAnyH_take (i := 28) (oi := ⟨some 31, _, _, _, _, _⟩) (v := ?_) rfl (by kernel_rfl) (by kernel_rfl) (by kernel_rfl) (fun _ _ _ h => h) (Or.inl ⟨by rfl, ?_⟩) (by assumption) ?_
  rotate_left
  · (intro w hSw; (try dsimp only at hSw); go_simp; first | done | with_reducible rfl)
  try simp only [Act.put, List.setIfInBounds_toArray, List.set_cons_zero, List.set_cons_succ]
  refine wpAnyH_take (i := 29) (oi := ⟨some 32, _, _, _, _, _⟩) (v := ?_) rfl (by kernel_rfl) (by kernel_rfl) (by kernel_rfl) (fun _ _ _ h => h) (Or.inl ⟨by rfl, ?_⟩) (by assumption) ?_
  rotate_left
  · (intro w hSw; (try dsimp only at hSw); go_simp; first | done | with_reducible rfl)
  try simp only [Act.put, List.setIfInBounds_toArray, List.set_cons_zero, List.set_cons_succ]
  refine wpAnyH_take (i := 30) (oi := ⟨some 33, _, _, _, _, _⟩) (v := ?_) rfl (by kernel_rfl) (by kernel_rfl) (by kernel_rfl) (fun _ _ _ h => h) (Or.inl ⟨by rfl, ?_⟩) (by assumption) ?_
  rotate_left
  · (intro w hSw; (try dsimp only at hSw); go_simp; first | done | with_reducible rfl)
  try simp only [Act.put, List.setIfInBounds_toArray, List.set_cons_zero, List.set_cons_succ]
  refine wpAnyH_ready (rs := [31]) (by kernel_rfl) (by simp) ?_
  refine AllReadyH.cons (o := ⟨some 34, _, _, _, _, _⟩) rfl (fun K hK => ?_) AllReadyH.nil
  go_simp
  refine (Q.out _ _ _ h6 _).mono ?_
  rintro e w9 ⟨rfl, rfl⟩
  refine hK.out _ _ (hHeld) (fun hHeld => ?_)
  clear hK K
  try simp only [Act.put, List.setIfInBounds_toArray, List.set_cons_zero, List.set_cons_succ]
  refine wpAnyH_take (i := 32) (oi := ⟨some 35, _, _, _, _, _⟩) (v := ?_) rfl (by kernel_rfl) (by kernel_rfl) (by kernel_rfl) (fun _ _ _ h => h) (Or.inl ⟨by rfl, ?_⟩) (by assumption) ?_
  rotate_left
  · (intro w hSw; (try dsimp only at hSw); go_simp; first | done | with_reducible rfl)
  try simp only [Act.put, List.setIfInBounds_toArray, List.set_cons_zero, List.set_cons_succ]
  refine wpAnyH_take (i := 33) (oi := ⟨some 36, _, _, _, _, _⟩) (v := ?_) rfl (by kernel_rfl) (by kernel_rfl) (by kernel_rfl) (fun _ _ _ h => h) (Or.inl ⟨by rfl, ?_⟩) (by assumption) ?_
  rotate_left
  · (intro w hSw; (try dsimp only at hSw); go_simp; first | done | with_reducible rfl)
  try simp only [Act.put, List.setIfInBounds_toArray, List.set_cons_zero, List.set_cons_succ]
  refine wpAnyH_take (i := 34) (oi := ⟨some 37, _, _, _, _, _⟩) (v := ?_) rfl (by kernel_rfl) (by kernel_rfl) (by kernel_rfl) (fun _ _ _ h => h) (Or.inl ⟨by rfl, ?_⟩) (by assumption) ?_
  rotate_left
  · (intro w hSw; (try dsimp only at hSw); go_simp; first | done | with_reducible rfl)
  try simp only [Act.put, List.setIfInBounds_toArray, List.set_cons_zero, List.set_cons_succ]
  refine wpAnyH_take (i := 35) (oi := ⟨some 38, _, _, _, _, _⟩) (v := ?_) rfl (by kernel_rfl) (by kernel_rfl) (by kernel_rfl) (fun _ _ _ h => h) (Or.inl ⟨by rfl, ?_⟩) (by assumption) ?_
  rotate_left
  · (intro w hSw; (try dsimp only at hSw); go_simp; first | done | with_reducible rfl)
  try simp only [Act.put, List.setIfInBounds_toArray, List.set_cons_zero, List.set_cons_succ]
  refine wpAnyH_take (i := 36) (oi := ⟨some 39, _, _, _, _, _⟩) (v := ?_) rfl (by kernel_rfl) (by kernel_rfl) (by kernel_rfl) (fun _ _ _ h => h) (Or.inl ⟨by rfl, ?_⟩) (by assumption) ?_
  rotate_left
  · (intro w hSw; (try dsimp only at hSw); go_simp; first | done | with_reducible rfl)
  try simp only [Act.put, List.setIfInBounds_toArray, List.set_cons_zero, List.set_cons_succ]
  refine wpAnyH_ready (rs := [37]) (by kernel_rfl) (by simp) ?_
  refine AllReadyH.cons (o := ⟨some 40, _, _, _, _, _⟩) rfl (fun K hK => ?_) AllReadyH.nil
  go_simp
  refine (hm.out _).mono ?_
  rintro e w9 ⟨rfl, hb9⟩
  refine hK.out _ _ (below_on hHeld hb9) (fun hHeld => ?_)
  clear hK K
  try simp only [Act.put, List.setIfInBounds_toArray, List.set_cons_zero, List.set_cons_succ]
  refine wpAnyH_ready (rs := [38]) (by kernel_rfl) (by simp) ?_
  refine AllReadyH.cons (o := ⟨some 41, _, _, _, _, _⟩) rfl (fun K hK => ?_) AllReadyH.nil
  go_simp
  refine (QF.out _ _ _ h7 _).mono ?_
  rintro e w10 ⟨rfl, rfl⟩
  refine hK.out _ _ (hHeld) (fun hHeld => ?_)
  clear hK K
  try simp only [Act.put, List.setIfInBounds_toArray, List.set_cons_zero, List.set_cons_succ]
  refine wpAnyH_take (i := 39) (oi := ⟨some 42, _, _, _, _, _⟩) (v := ?_) rfl (by kernel_rfl) (by kernel_rfl) (by kernel_rfl) (fun _ _ _ h => h) (Or.inl ⟨by rfl, ?_⟩) (by assumption) ?_
  rotate_left
  · (intro w hSw; (try dsimp only at hSw); go_simp; first | done | with_reducible rfl)
  try simp only [Act.put, List.setIfInBounds_toArray, List.set_cons_zero, List.set_cons_succ]
  refine wpAnyH_take (i := 40) (oi := ⟨some 43, _, _, _, _, _⟩) (v := ?_) rfl (by kernel_rfl) (by kernel_rfl) (by kernel_rfl) (fun _ _ _ h => h) (Or.inl ⟨by rfl, ?_⟩) (by assumption) ?_
  rotate_left
  · (intro w hSw; (try dsimp only at hSw); go_simp; first | done | with_reducible rfl)
  try simp only [Act.put, List.setIfInBounds_toArray, List.set_cons_zero, List.set_cons_succ]
  refine wpAnyH_take (i := 41) (oi := ⟨some 44, _, _, _, _, _⟩) (v := undef) rfl (by kernel_rfl) (by kernel_rfl) (by kernel_rfl) (fun _ _ _ h => h) (Or.inr ⟨by rfl, rfl⟩) (by assumption) ?_
  try simp only [Act.put, List.setIfInBounds_toArray, List.set_cons_zero, List.set_cons_succ]
  refine wpAnyH_take (i := 42) (oi := ⟨some 45, _, _, _, _, _⟩) (v := undef) rfl (by kernel_rfl) (by kernel_rfl) (by kernel_rfl) (fun _ _ _ h => h) (Or.inr ⟨by rfl, rfl⟩) (by assumption) ?_
  try simp only [Act.put, List.setIfInBounds_toArray, List.set_cons_zero, List.set_cons_succ]
  refine wpAnyH_take (i := 43) (oi := ⟨some 46, _, _, _, _, _⟩) (v := undef) rfl (by kernel_rfl) (by kernel_rfl) (by kernel_rfl) (fun _ _ _ h => h) (Or.inr ⟨by rfl, rfl⟩) (by assumption) ?_
  try simp only [Act.put, List.setIfInBounds_toArray, List.set_cons_zero, List.set_cons_succ]
  refine wpAnyH_take (i := 44) (oi := ⟨some 47, _, _, _, _, _⟩) (v := undef) rfl (by kernel_rfl) (by kernel_rfl) (by kernel_rfl) (fun _ _ _ h => h) (Or.inr ⟨by rfl, rfl⟩) (by assumption) ?_
  try simp only [Act.put, List.setIfInBounds_toArray, List.set_cons_zero, List.set_cons_succ]
  refine wpAnyH_take (i := 45) (oi := ⟨some 48, _, _, _, _, _⟩) (v := undef) rfl (by kernel_rfl) (by kernel_rfl) (by kernel_rfl) (fun _ _ _ h => h) (Or.inr ⟨by rfl, rfl⟩) (by assumption) ?_
  try simp only [Act.put, List.setIfInBounds_toArray, List.set_cons_zero, List.set_cons_succ]
  refine wpAnyH_take (i := 46) (oi := ⟨some 49, _, _, _, _, _⟩) (v := undef) rfl (by kernel_rfl) (by kernel_rfl) (by kernel_rfl) (fun _ _ _ h => h) (Or.inr ⟨by rfl, rfl⟩) (by assumption) ?_
  try simp only [Act.put, List.setIfInBounds_toArray, List.set_cons_zero, List.set_cons_succ]
  refine wpAnyH_take (i := 47) (oi := ⟨some 50, _, _, _, _, _⟩) (v := ?_) rfl (by kernel_rfl) (by kernel_rfl) (by kernel_rfl) (fun _ _ _ h => h) (Or.inl ⟨by rfl, ?_⟩) (by assumption) ?_
  rotate_left
  · (intro w hSw; (try dsimp only at hSw); go_simp; first | done | with_reducible rfl)
  try simp only [Act.put, List.setIfInBounds_toArray, List.set_cons_zero, List.set_cons_succ]
  refine wpAnyH_take (i := 48) (oi := ⟨some 2, _, _, _, _, _⟩) (v := ?_) rfl (by kernel_rfl) (by kernel_rfl) (by kernel_rfl) (fun _ _ _ h => h) (Or.inl ⟨by rfl, ?_⟩) (by assumption) ?_
  rotate_left
  · (intro w hSw; (try dsimp only at hSw); go_simp; first | done | with_reducible rfl)
  try simp only [Act.put, List.setIfInBounds_toArray, List.set_cons_zero, List.set_cons_succ]
  refine wpAnyH_done (by kernel_rfl) ?_ _
  go_wp2
  go_ret
  exact ⟨rfl, by rw [Hgs.out]; exact HbW.out.trans (hHeld.mono hgW2.out)⟩

theorem right_any (s : Sup) (w : World) :
    Calls Tryz.prog 73 #[s.val] w fun e w' => e = .returned (.bool s.right) ∧ Below w.heap.size w w' := by
  unfold Sup.right
  by_cases h1 : (1 ≤ s.gen ∧ s.gen ≤ 4611686018427387904)
  · by_cases h2 : (3 ≤ s.mem ∧ s.mem ≤ 16)
    · by_cases h3 : (0 ≤ s.disk ∧ s.disk ≤ s.mem)
      · by_cases h4 : (1 ≤ s.str ∧ s.str ≤ 1024)
        · by_cases h5 : (1 ≤ s.logs ∧ s.logs ≤ 8)
          · by_cases h6 : (-1 ≤ s.spare ∧ s.spare ≤ s.mem - 1)
            · by_cases h7 : (0 ≤ s.mark ∧ s.mark ≤ s.most)
              · by_cases h8 : (0 ≤ s.cur ∧ s.cur ≤ s.str - 1)
                · rw [decide_eq_true h1, decide_eq_true h2, decide_eq_true h3, decide_eq_true h4, decide_eq_true h5, decide_eq_true h6, decide_eq_true h7, decide_eq_true h8]
                  exact right_yes s w h1 h2 h3 h4 h5 h6 h7 h8
                · rw [decide_eq_true h1, decide_eq_true h2, decide_eq_true h3, decide_eq_true h4, decide_eq_true h5, decide_eq_true h6, decide_eq_true h7, decide_eq_false h8]
                  exact right_no8 s w h1 h2 h3 h4 h5 h6 h7 h8
              · rw [decide_eq_true h1, decide_eq_true h2, decide_eq_true h3, decide_eq_true h4, decide_eq_true h5, decide_eq_true h6, decide_eq_false h7]
                exact right_no7 s w h1 h2 h3 h4 h5 h6 h7
            · rw [decide_eq_true h1, decide_eq_true h2, decide_eq_true h3, decide_eq_true h4, decide_eq_true h5, decide_eq_false h6]
              exact right_no6 s w h1 h2 h3 h4 h5 h6
          · rw [decide_eq_true h1, decide_eq_true h2, decide_eq_true h3, decide_eq_true h4, decide_eq_false h5]
            exact right_no5 s w h1 h2 h3 h4 h5
        · rw [decide_eq_true h1, decide_eq_true h2, decide_eq_true h3, decide_eq_false h4]
          exact right_no4 s w h1 h2 h3 h4
      · rw [decide_eq_true h1, decide_eq_true h2, decide_eq_false h3]
        exact right_no3 s w h1 h2 h3
    · rw [decide_eq_true h1, decide_eq_false h2]
      exact right_no2 s w h1 h2
  · rw [decide_eq_false h1]
    exact right_no1 s w h1
end Go.Proofs.YtplbgjjacomceaaGreatDoor.S
namespace Go.Proofs.YtplbgjjacomceaaGreatDoor.S
open Go.RowKit

theorem own_whole {w : World} {base : Nat} {e : TypeId} {n g : Nat} {xs : List Value} (h : w.ownsRow base e 1 (.slice (some ⟨g, 0, none⟩) n n) n xs) : w.heap[g]? = some (.cells xs.toArray e (0, 0)) := by
  rcases h.2 with ⟨h0, _⟩ | ⟨g', cap, cur, hv, _, hh, _, _, hs, ht⟩
  · cases h0
  · injection hv with h1 _ h3
    injection h1 with h1
    injection h1 with h1
    subst h1 h3
    rw [hh]
    have e2 : cur.toList = xs := by
      rw [← ht, List.take_of_length_le (by simp [hs])]
    rw [← e2]
theorem own_of {w : World} {base : Nat} {e : TypeId} {n g : Nat} {xs : List Value} (h : w.heap[g]? = some (.cells xs.toArray e (0, 0))) (hb : base ≤ g) (hn : xs.length = n) (hm : n ≤ maxLen) : w.ownsRow base e 1 (.slice (some ⟨g, 0, none⟩) n n) n xs :=
  ⟨by omega, .inr ⟨g, n, xs.toArray, rfl, hb, h, Nat.le_refl _, hm, by simp [hn], by rw [Nat.mul_one, ← hn]; exact List.take_length⟩⟩

set_option maxRecDepth 20000 in
set_option maxHeartbeats 1000000 in
theorem encode_no (s : Sup) (w : World) (hr : s.right = false) :
    Calls Tryz.prog 31 #[s.val] w fun e w' => e = .returned (.tuple #[.slice none 0 0, .int .i64 1]) ∧ Below w.heap.size w w' := by
  have q := Lib.hid (fun w => right_any s w)
  rw [hr] at q
  clear hr
  have hblk := heap_alloc_last w (.cells s.cells 65)
  obtain ⟨c0, c1, c2, c3, c4, c5, c6, c7⟩ := row8 hblk
  clear hblk
  obtain ⟨x0, x1, x2, x3, x4, x5, x6, x7⟩ := s
  simp only [Sup.val, Sup.cells] at *
  go_enter Tryz.func31, Tryz.ntmps31
  have hbW : Below w.heap.size w (w.alloc (.cells #[.int .i64 x0, .int .i64 x1, .int .i64 x2, .int .i64 x3, .int .i64 x4, .int .i64 x5, .int .i64 x6, .int .i64 x7] 65)) := (Below.refl _ _).alloc (Nat.le_refl _) _
  go_wp2_with fail
  refine (q.out _).mono ?_
  rintro e w1 ⟨rfl, hb1⟩
  have hb := hbW.trans (hb1.mono (by simp))
  clear c0 c1 c2 c3 c4 c5 c6 c7 hbW hb1
  go_wp2_with fail
  go_ret2
  exact ⟨rfl, hb⟩
theorem zeros_own {w : World} {base g : Nat} (h : w.ownsRow base 5 1 (.slice (some ⟨g, 0, none⟩) 128 128) 128 (madeCells (Value.int .u8 0).cells (128 * 1)).toList) : w.ownsRow base 5 1 (.slice (some ⟨g, 0, none⟩) 128 128) 128 (bts (List.replicate 128 0)) := by
  have e : (madeCells (Value.int .u8 0).cells (128 * 1)).toList = bts (List.replicate 128 0) := (toList_madeCells_one _ _).trans (by simp [bts])
  rw [e] at h
  exact h
theorem reads_row {w : World} {g : Nat} {l : List Nat} {e : TypeId} (h : w.heap[g]? = some (.cells (bts l).toArray e (0, 0))) (hg : g < w.heap.size) (hl : l.length = 128) : Reads w w.heap.size (some ⟨g, 0, none⟩) 128 (bts l) := by
  refine ⟨by rw [bts_length, hl], fun _ => ⟨_, rfl, hg, fun j u hu => ?_⟩⟩
  have hadd : (⟨g, 0, none⟩ : Addr).add j = ⟨g, j, none⟩ := by unfold Addr.add; split <;> simp_all
  rw [hadd, cell_of_row _ _ j _ _ _ h, List.getElem?_toArray]; exact hu
theorem splice_whole {α : Type} {cur cs : List α} (h : cs.length = cur.length) : splice cur 0 cs = cs := by
  unfold splice
  rw [Nat.zero_add, List.drop_eq_nil_of_le (by omega)]
  simp
/-- A block of 128 bytes of the caller's own. -/
def Fresh (w : World) (l : List Nat) (e : Ending) (w' : World) : Prop :=
  ∃ g, e = .returned (.tuple #[.slice (some ⟨g, 0, none⟩) 128 128, .int .i64 0]) ∧ w'.ownsRow w.heap.size 5 1 (.slice (some ⟨g, 0, none⟩) 128 128) 128 (bts l) ∧ Below w.heap.size w w'
set_option maxRecDepth 100000 in
set_option maxHeartbeats 4000000 in
theorem encode_ok (s : Sup) (w : World) (hr : s.right = true) (hT : Tabs w) (hW : Wid w) :
    Calls Tryz.prog 31 #[s.val] w (Fresh w (encL s.nums)) := by
  have q := Lib.hid (fun w => right_any s w)
  rw [hr] at q
  have qb := Lib.hid (fun w => block_any s w hr)
  clear hr
  have hl := encL_length s.nums
  have hblk := heap_alloc_last w (.cells s.cells 65)
  have hc := row8 hblk
  generalize encL s.nums = l at *
  obtain ⟨x0, x1, x2, x3, x4, x5, x6, x7⟩ := s
  simp only [Sup.val, Sup.cells] at *
  have hbW : Below w.heap.size w (w.alloc (.cells #[.int .i64 x0, .int .i64 x1, .int .i64 x2, .int .i64 x3, .int .i64 x4, .int .i64 x5, .int .i64 x6, .int .i64 x7] 65)) := (Below.refl _ _).alloc (Nat.le_refl _) _
  have hsW : (w.alloc (.cells #[.int .i64 x0, .int .i64 x1, .int .i64 x2, .int .i64 x3, .int .i64 x4, .int .i64 x5, .int .i64 x6, .int .i64 x7] 65)).heap.size = w.heap.size + 1 := by simp
  obtain ⟨i1, ki, kz0, kz1, kz2⟩ := info_parts info_u8
  have HT := Lib.hid hT
  have HW := Lib.hid hW
  have HL := Lib.hid hl
  have hblk := Lib.hid hblk
  clear hT hW hl
  obtain ⟨c0, c1, c2, c3, c4, c5, c6, c7⟩ := hc
  go_enter Tryz.func31, Tryz.ntmps31
  go_wp2_with fail
  generalize w.alloc (.cells #[.int .i64 x0, .int .i64 x1, .int .i64 x2, .int .i64 x3, .int .i64 x4, .int .i64 x5, .int .i64 x6, .int .i64 x7] 65) = W at *
  generalize hgs : w.heap.size = g at *
  have Hgs := Lib.hid hgs
  clear hgs
  refine (q.out _).mono ?_
  rintro e w1 ⟨rfl, hb1⟩
  clear c0 c1 c2 c3 c4 c5 c6 c7 q
  obtain ⟨c0, c1, c2, c3, c4, c5, c6, c7⟩ := row8 (s := ⟨x0, x1, x2, x3, x4, x5, x6, x7⟩) ((hb1.block g (by omega)).trans hblk.out)
  simp only at c0 c1 c2 c3 c4 c5 c6 c7
  have hbg1 := hbW.trans (hb1.mono (by omega))
  have hg1 : g < w1.heap.size := by have := hb1.size; omega
  clear hbW hsW hblk hb1
  go_wp2_with fail
  refine (qb.out w1 (HT.out.below (by have := HT.out.size; rw [← Hgs.out]; exact this) hbg1) (HW.out.below (by have := HW.out.size; rw [← Hgs.out]; exact this) hbg1)).mono ?_
  rintro e w2 ⟨rfl, hb2⟩
  have hbg2 := hbg1.trans (hb2.mono (by omega))
  have hg2 : g < w2.heap.size := by have := hb2.size; omega
  clear c0 c1 c2 c3 c4 c5 c6 c7 qb hb2 hbg1 hg1
  have hz0 := zero_block
  have hzn := zcB_ne
  have hres : (w2.alloc (.cells zcB 120)).heap[w2.heap.size]? = some (.cells zcB 120 (0, 0)) := heap_alloc_last _ _
  have hs128 : (bts l).toArray.size = 128 := by rw [List.size_toArray, bts_length, HL.out]
  have hi61 : (Tryz.prog.info? 120).map (·.size) = some (bts l).toArray.size := by rw [hs128]; exact info_block
  have hone : (bts l).toArray.all (·.oneCell') = true := Array.all_eq_true_iff_forall_mem.2 (fun v hv => bts_one _ v (by simpa using hv))
  have hold : zcB.size = (bts l).toArray.size := by rw [hs128, zcB_size]
  have hrow := setRow_heap (w2.alloc (.cells zcB 120)) w2.heap.size _ (bts l).toArray 120 (0, 0) hres
  have hb3 := below_setRow (g := w2.heap.size) (hbg2.alloc (by omega) (.cells zcB 120)) (by omega) (bts l).toArray
  have hs3 : w2.heap.size < ((w2.alloc (.cells zcB 120)).setRow w2.heap.size (bts l).toArray).heap.size := by simp [World.setRow]
  have hs4 : ((w2.alloc (.cells zcB 120)).setRow w2.heap.size (bts l).toArray).heap.size = w2.heap.size + 1 := by simp [World.setRow]
  go_wp2_with (first
    | (with_reducible refine wpList_store_row rfl 120 (.tmp 4) (.tmp 10) rfl w2.heap.size _ rfl rfl 120 _ hres hi61 hold hone ?_)
    | (at_make; refine wpList_make_full _ rfl _ _ 45 rfl g 5 i1 _ 1 Tryz.underlying45 ki kz0 kz1 _ _ _ _ 128 rfl rfl rfl rfl (by rw [kz2]; omega) (by unfold maxLen; omega) (Nat.le_trans (Nat.le_of_lt (Nat.lt_trans hg2 hs3)) (Nat.le_refl _)) ?_; intro w4 hown4 hgrow4; rw [hs4] at hown4))
  have hblk2 : w4.heap[w2.heap.size]? = some (.cells (bts l).toArray 120 (0, 0)) := (hgrow4.block _ hs3 (fun h => by cases h)).trans hrow
  have hz4 := own_whole (zeros_own hown4)
  have hb4 := hb3.grown hgrow4 (by omega) (fun _ h => by cases h)
  have hlt4 : w2.heap.size < w4.heap.size := Nat.lt_of_lt_of_le hs3 hgrow4.size
  have hrd : Reads w4 w4.heap.size (some ⟨w2.heap.size, 0, none⟩) 128 (bts l) := reads_row hblk2 hlt4 HL.out
  obtain ⟨W5, hrun5, hblk5, hbel5⟩ := bytes_run w4 (w2.heap.size + 1) 0 128 128 128 _ (some ⟨w2.heap.size, 0, none⟩) l (List.replicate 128 0) 5 3 hz4 hrd (by decide) (by decide) (by decide)
  rw [splice_whole (by rw [bts_length, bts_length, HL.out]; rfl)] at hblk5
  have hb5 := hbel5 g w (by omega) hb4
  rw [hrun5]
  have hfin : W5.ownsRow g 5 1 (.slice (some ⟨w2.heap.size + 1, 0, none⟩) 128 128) 128 (bts l) := own_of hblk5 (by omega) (by rw [bts_length, HL.out]) (by unfold maxLen; omega)
  clear hblk5 hbel5 hrd hz4 hown4 hgrow4 hb4 hb3 hrow hs3 hs4 hres hi61 hone hold hs128 hz0 hzn hblk2 hbg2
  generalize w2.heap.size + 1 = g4 at *
  go_wp2_with fail
  go_ret2
  exact ⟨g4, rfl, by rw [Hgs.out]; exact hfin, by rw [Hgs.out]; exact hb5⟩
end Go.Proofs.YtplbgjjacomceaaGreatDoor.S
