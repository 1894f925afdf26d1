/-
  raid: disks, a volume, what is said.
  Conditions: each theorem's own.
-/
import Derived.Test.YtplbgjjacomceaaGreatDoorQm
import Derived.Test.YtplbgjjacomceaaGreatDoorQn
import Derived.Test.YtplbgjjacomceaaGreatDoorQf
import Derived.Test.YtplbgjjacomceaaGreatDoorGa
import Derived.Deep.RegionWith
import Derived.Deep.RegionHeld3
import Derived.Test.YtplbgjjacomceaaGreatDoorGb
namespace Go.Proofs.YtplbgjjacomceaaGreatDoor.U
open Go.RowKit Go.Maps

/-- The blocks that the disks' blocks and their shelf have. -/
def AllB (F : Nat → Prop) (a : Nat → Nat) (n : Nat) (b : Nat) : Prop := F b ∨ ∃ i, i < n ∧ b = a i
/-- A function that is another at one place. -/
def put1 {α : Type} (f : Nat → α) (i : Nat) (x : α) : Nat → α := fun j => if j = i then x else f j
/-- n disks' blocks: the disk i's lie in block a i. -/
structure Devs (B : Nat) (W w : World) (p n : Nat) (a : Nat → Nat) (o : Nat → Int) (S : Sh.Sf) (F : Nat → Prop) : Prop where
  on : Sh.At B W w p S F
  dev : ∀ i, i < n → DevIs w (a i) p i (o i)
  apart : ∀ i, i < n → ¬ F (a i)
  inj : ∀ i j, i < n → j < n → a i = a j → i = j
  low : ∀ i, i < n → B ≤ a i
/-- What a call leaves: the disks' blocks and their shelf; of what was there it wrote these alone. -/
def DsGoes (B : Nat) (W w w' : World) (p n : Nat) (a : Nat → Nat) (o : Nat → Int) (S : Sh.Sf) (F : Nat → Prop) : Prop := ∃ F', Devs B W w' p n a o S F' ∧ Sh.Moves (AllB F a n) w (AllB F' a n) w'
section
variable {B : Nat} {W w w' w'' : World} {p n : Nat} {a : Nat → Nat} {o o' : Nat → Int} {S S' S'' : Sh.Sf} {F F' : Nat → Prop}
theorem Devs.dv (h : Devs B W w p n a o S F) {i : Nat} (hi : i < n) : Dv B W w (a i) p i (o i) S F := ⟨h.on, h.dev i hi, h.apart i hi, h.low i hi⟩
theorem Devs.lt (h : Devs B W w p n a o S F) : ∀ b, AllB F a n b → b < w.heap.size := by
  rintro b (e | ⟨i, hi, rfl⟩)
  · exact h.on.shelf.ltF e
  · exact (h.dev i hi).lt
theorem Devs.lowAll (h : Devs B W w p n a o S F) : ∀ b, AllB F a n b → B ≤ b := by
  rintro b (e | ⟨i, hi, rfl⟩)
  · exact h.on.low b e
  · exact h.low i hi
theorem Devs.grown (h : Devs B W w p n a o S F) (hb : Below w.heap.size w w') : Devs B W w' p n a o S F :=
  ⟨h.on.grown hb, fun i hi => (h.dev i hi).same (hb.block _ (h.dev i hi).lt), h.apart, h.inj, h.low⟩
theorem Devs.goes (h : Devs B W w p n a o S F) {i : Nat} (hi : i < n) {x : Int} (hG : Goes B W w w' (a i) p i x S' F) : DsGoes B W w w' p n a (put1 o i x) S' F := by
  obtain ⟨F', D, m⟩ := hG
  have hne : ∀ j, j < n → j ≠ i → ¬ With F (a i) (a j) := fun j hj hji e => e.elim (h.apart j hj) fun e => hji (h.inj j i hj hi e)
  have ha : ∀ j, j < n → ¬ F' (a j) := by
    intro j hj e
    by_cases hji : j = i
    · subst hji; exact D.apart e
    · rcases m.2 (a j) (.inl e) with e | e
      · exact hne j hj hji e
      · exact Nat.lt_irrefl _ (Nat.lt_of_lt_of_le (h.dev j hj).lt e)
  refine ⟨F', ⟨D.on, fun j hj => ?_, ha, h.inj, h.low⟩, m.1.mono fun b hb => hb.imp id (fun e => ⟨i, hi, e⟩), ?_⟩
  · by_cases hji : j = i
    · subst hji
      unfold put1
      rw [if_pos rfl]
      exact D.dev
    · unfold put1
      rw [if_neg hji]
      exact (h.dev j hj).same (m.1.block _ (h.dev j hj).lt (hne j hj hji))
  · rintro b (e | ⟨j, hj, rfl⟩)
    · exact (m.2 b (.inl e)).imp (fun e => e.imp id fun e => ⟨i, hi, e⟩) id
    · exact .inl (.inr ⟨j, hj, rfl⟩)
theorem Devs.stays (h : Devs B W w p n a o S F) (hs : Sh.Shelf w' p S' F) (ho : Sh.Only F w w') : Devs B W w' p n a o S' F :=
  ⟨h.on.stays hs ho, fun i hi => (h.dev i hi).same (ho.block _ (h.dev i hi).lt (h.apart i hi)), h.apart, h.inj, h.low⟩
theorem Devs.left (h : Devs B W w p n a o S F) (hl : Sh.Left F w p S' w') : DsGoes B W w w' p n a o S' F := by
  obtain ⟨F', h1, hm⟩ := h.on.left hl
  have ha : ∀ j, j < n → ¬ F' (a j) := by
    intro j hj e
    rcases hm.2 _ e with e | e
    · exact h.apart j hj e
    · exact Nat.lt_irrefl _ (Nat.lt_of_lt_of_le (h.dev j hj).lt e)
  refine ⟨F', ⟨h1, fun j hj => (h.dev j hj).same (hm.1.block _ (h.dev j hj).lt (h.apart j hj)), ha, h.inj, h.low⟩, hm.1.mono fun b hb => .inl hb, ?_⟩
  rintro b (e | e)
  · exact (hm.2 b e).imp .inl id
  · exact .inl (.inr e)
theorem DsGoes.here (h : Devs B W w p n a o S F) (hb : Below w.heap.size w w') : DsGoes B W w w' p n a o S F :=
  ⟨F, h.grown hb, ⟨hb.os, hb.tape, hb.output, hb.size, fun k hk _ => hb.block k hk⟩, fun _ hb => .inl hb⟩
theorem moves_trans {F1 F2 F3 : Nat → Prop} (h : Sh.Moves F1 w F2 w') (k : Sh.Moves F2 w' F3 w'') : Sh.Moves F1 w F3 w'' := h.trans k
/-- Memory beside the disks' blocks. -/
theorem Beside_moves {G G' : Nat → Prop} {A : Option Addr} {l : Sh.Bs} (h : Sh.Beside w G A l) (m : Sh.Moves G w G' w') : Sh.Beside w' G' A l := h.moves m
/-- For one of them, memory beside all of them is beside its own. -/
theorem beside_one {A : Option Addr} {l : Sh.Bs} (h : Sh.Beside w (AllB F a n) A l) {i : Nat} (hi : i < n) : Sh.Beside w (With F (a i)) A l :=
  ⟨h.1, fun x hx e => h.2 x hx (e.imp id fun e => ⟨i, hi, e⟩)⟩
/-- New memory lies beside all of them. -/
theorem Devs.beside_new (h : Devs B W w p n a o S F) {A : Option Addr} {l : Sh.Bs} (hb : Sh.Bytes w w' A l) : Sh.Beside w' (AllB F a n) A l :=
  ⟨hb.1, fun x hx e => by
    have := (hb.2 x hx).1
    have := h.lt _ e
    omega⟩
end
/-! ### logs -/
/-- Each disk's log: the disk i's lies in block g i. -/
structure Lgs (B : Nat) (w : World) (n : Nat) (a g : Nat → Nat) (L : Nat) (F : Nat → Prop) : Prop where
  log : ∀ i, i < n → LogIs w (g i) (a i) L
  apart : ∀ i, i < n → ¬ AllB F a n (g i)
  low : ∀ i, i < n → B ≤ g i
section
variable {B : Nat} {W w w' : World} {p n L : Nat} {a g : Nat → Nat} {o o' : Nat → Int} {S S' : Sh.Sf} {F F' : Nat → Prop}
theorem Lgs.lg (k : Lgs B w n a g L F) (h : Devs B W w p n a o S F) {i : Nat} (hi : i < n) : Lg B W w (g i) (a i) p i (o i) S F L :=
  ⟨h.dv hi, k.log i hi, fun e => k.apart i hi (e.imp id fun e => ⟨i, hi, e⟩), k.low i hi⟩
theorem Lgs.moves (k : Lgs B w n a g L F) (m : Sh.Moves (AllB F a n) w (AllB F' a n) w') : Lgs B w' n a g L F' :=
  ⟨fun i hi => (k.log i hi).same (m.1.block _ (k.log i hi).lt (k.apart i hi)), fun i hi e => by
    rcases m.2 _ e with e | e
    · exact k.apart i hi e
    · exact Nat.lt_irrefl _ (Nat.lt_of_lt_of_le (k.log i hi).lt e), k.low⟩
theorem Lgs.grown (k : Lgs B w n a g L F) (hb : Below w.heap.size w w') : Lgs B w' n a g L F :=
  ⟨fun i hi => (k.log i hi).same (hb.block _ (k.log i hi).lt), k.apart, k.low⟩
end
end Go.Proofs.YtplbgjjacomceaaGreatDoor.U
namespace Go.Proofs.YtplbgjjacomceaaGreatDoor.U
open Go.RowKit Go.Maps

theorem base_ok (n : Nat) (h1 : 1 ≤ n) (h2 : n ≤ 8) (w : World) : Calls Tryz.prog 132 #[.int .i64 n] w fun e w' => e = .returned (.tuple #[.int .i64 ((2 + 2 * n : Nat) : Int), .int .i64 0]) ∧ w = w' := by
  have hx := Lib.hid (show 2 + 2 * (n : Int) = ((2 + 2 * n : Nat) : Int) by omega)
  have q2 : decide ((n : Int) ≤ 8) = true := by simp; omega
  go_enter Tryz.func132, Tryz.ntmps132
  go_wp2
  go_ret2
  exact ⟨by rw [← hx.out]; rfl, rfl⟩
/-- So many records no log has. -/
def NoLogs (n : Int) : Prop := n < 1 ∨ (1 ≤ n ∧ 8 < n)
theorem base_no (n : Int) (h : NoLogs n) (w : World) : Calls Tryz.prog 132 #[.int .i64 n] w fun e w' => e = .returned (.tuple #[.int .i64 0, .int .i64 1]) ∧ w = w' := by
  rcases h with h | ⟨h, h2⟩
  · go_enter Tryz.func132, Tryz.ntmps132
    go_wp2
    go_ret2
    exact ⟨rfl, rfl⟩
  · have q2 : decide (n ≤ 8) = false := by simp; omega
    go_enter Tryz.func132, Tryz.ntmps132
    go_wp2
    go_ret2
    exact ⟨rfl, rfl⟩
theorem stripes_yes (s : Int) (h1 : 1 ≤ s) (h2 : s ≤ 1024) (w : World) : Calls Tryz.prog 135 #[.int .i64 s] w fun e w' => e = .returned (.bool true) ∧ w = w' := by
  have q1 : decide (s ≥ 1) = true := by simp; omega
  have q2 : decide (s ≤ 1024) = true := by simp; omega
  go_enter Tryz.func135, Tryz.ntmps135
  go_wp2
  go_ret
  exact ⟨rfl, rfl⟩
theorem stripes_no (s : Int) (h : s < 1 ∨ (1 ≤ s ∧ 1024 < s)) (w : World) : Calls Tryz.prog 135 #[.int .i64 s] w fun e w' => e = .returned (.bool false) ∧ w = w' := by
  rcases h with h | ⟨h, h2⟩
  · have q1 : decide (s ≥ 1) = false := by simp; omega
    go_enter Tryz.func135, Tryz.ntmps135
    go_wp2
    go_ret
    exact ⟨rfl, rfl⟩
  · have q1 : decide (s ≥ 1) = true := by simp; omega
    have q2 : decide (s ≤ 1024) = false := by simp; omega
    go_enter Tryz.func135, Tryz.ntmps135
    go_wp2
    go_ret
    exact ⟨rfl, rfl⟩
theorem need_ok (s n : Nat) (h1 : 1 ≤ n) (h2 : n ≤ 8) (h3 : 1 ≤ s) (h4 : s ≤ 1024) (w : World) : Calls Tryz.prog 136 #[.int .i64 s, .int .i64 n] w fun e w' => e = .returned (.tuple #[.int .i64 ((2 + 2 * n + s : Nat) : Int), .int .i64 0]) ∧ w = w' := by
  have hq := Lib.hid (base_ok n h1 h2)
  have hx := Lib.hid (show ((2 + 2 * n : Nat) : Int) + (s : Int) = ((2 + 2 * n + s : Nat) : Int) by omega)
  have hy : 2 + 2 * n ≤ 18 := by omega
  have hs := Lib.hid (stripes_yes s (by omega) (by omega))
  generalize 2 + 2 * n + s = z at *
  generalize 2 + 2 * n = x at *
  go_enter Tryz.func136, Tryz.ntmps136
  go_wp2_with (first
    | (go_at_call 132; refine (hq.out _).mono ?_; rintro e w' ⟨rfl, rfl⟩)
    | (go_at_call 135; refine (hs.out _).mono ?_; rintro e w' ⟨rfl, rfl⟩))
  go_ret2
  exact ⟨by rw [← hx.out]; rfl, rfl⟩
theorem need_logs (s n : Int) (h : NoLogs n) (w : World) : Calls Tryz.prog 136 #[.int .i64 s, .int .i64 n] w fun e w' => e = .returned (.tuple #[.int .i64 0, .int .i64 1]) ∧ w = w' := by
  have hq := Lib.hid (base_no n h)
  clear h
  go_enter Tryz.func136, Tryz.ntmps136
  go_wp2_with (go_at_call 132; refine (hq.out _).mono ?_; rintro e w' ⟨rfl, rfl⟩)
  go_ret2
  exact ⟨rfl, rfl⟩
theorem need_stripes (s : Int) (n : Nat) (h1 : 1 ≤ n) (h2 : n ≤ 8) (h : s < 1 ∨ (1 ≤ s ∧ 1024 < s)) (w : World) : Calls Tryz.prog 136 #[.int .i64 s, .int .i64 n] w fun e w' => e = .returned (.tuple #[.int .i64 0, .int .i64 1]) ∧ w = w' := by
  have hq := Lib.hid (base_ok n h1 h2)
  have hs := Lib.hid (stripes_no s h)
  generalize 2 + 2 * n = x at *
  clear h
  go_enter Tryz.func136, Tryz.ntmps136
  go_wp2_with (first
    | (go_at_call 132; refine (hq.out _).mono ?_; rintro e w' ⟨rfl, rfl⟩)
    | (go_at_call 135; refine (hs.out _).mono ?_; rintro e w' ⟨rfl, rfl⟩))
  go_ret2
  exact ⟨rfl, rfl⟩
end Go.Proofs.YtplbgjjacomceaaGreatDoor.U
namespace Go.Proofs.YtplbgjjacomceaaGreatDoor.U
open Go.RowKit Go.Maps

set_option maxRecDepth 20000 in
theorem rNoughts_any (ad : Addr) (c : Nat) (b : Sh.Bs) (w : World) (hr : Reads w w.heap.size (some ad) 128 (bts b)) :
    Calls Tryz.prog 51 #[.slice (some ad) 128 c] w fun e w' => e = .returned (.bool (decide (b = Sh.noughts))) ∧ w = w' := by
  have hl := hr.len
  have he := arr_eql w hl (show Sh.noughts.length = 128 from by simp [Sh.noughts])
  have hld := load_arr hr
  have hz := zero_bytes
  have hat := run_arrayAt ad c
  have hzn := zcB_ne
  rw [← zcB_bts] at he
  have hq : (b == Sh.noughts) = decide (b = Sh.noughts) := by rw [Bool.eq_iff_iff, beq_iff_eq, decide_eq_true_iff]
  rw [hq] at he
  generalize decide (b = Sh.noughts) = q at *
  clear hq hr hl
  generalize (bts b).toArray = X at *
  go_enter Tryz.func51, Tryz.ntmps51
  go_wp2_with (refine loadKnown (o := ⟨some 5, _, _, _, _, _⟩) (by rfl) 118 (.tmp 4) rfl ad rfl (.agg X) hld ?_)
  go_ret
  exact ⟨rfl, rfl⟩
theorem below_only {w w' : World} {F : Nat → Prop} (h : Below w.heap.size w w') : Sh.Only F w w' := ⟨h.os, h.tape, h.output, h.size, fun k hk _ => h.block k hk⟩
section
variable {B : Nat} {W w : World} {a p d : Nat} {o : Int} {S : Sh.Sf} {F : Nat → Prop}
set_option maxRecDepth 20000 in
theorem nought_calm (h : Dv B W w a p d o S F) (hT : Tabs W) (hTB : max 1 2 + 1 ≤ B) (hc : Calm S d) (k : Nat) (hk : k < blk S.sectors) (hg : goodAt S d k = true) (hv : V S d (dataOf k) = Sh.noughts) (g : Option Addr) :
    Calls Tryz.prog 138 #[.agg #[.pointer (some ⟨a, 0, none⟩), .pointer g], .int .i64 k] w fun e w' => e = .returned (.int .i64 0) ∧ Dv B W w' a p d o (Looked S d) F ∧ Sh.Only F w w' := by
  have hb : Below w.heap.size w (w.alloc (.cells #[.pointer (some ⟨a, 0, none⟩), .pointer g] 109)) := (Below.refl _ _).alloc (Nat.le_refl _) _
  have HRD := Lib.hid (read_calm (h.grown hb) hT hTB hc k hk hg)
  have HB := Lib.hid hb
  rw [hv] at HRD
  clear h hb hv hg hk hT hTB hc
  go_enter Tryz.func138, Tryz.ntmps138
  go_wp2_with fail
  refine HRD.out.mono ?_
  rintro e w1 ⟨A, c, rfl, y, D, O⟩
  obtain ⟨ad, rfl⟩ := bytes_some y
  have HIS := Lib.hid (rNoughts_any ad c Sh.noughts w1 y.1)
  rw [decide_eq_true rfl] at HIS
  have HO := Lib.hid ((below_only (F := F) HB.out).trans O (fun _ e => .inl e))
  clear y O
  go_wp2_with (go_at_call 51; refine HIS.out.mono ?_; rintro e w' ⟨rfl, rfl⟩)
  go_ret
  exact ⟨rfl, D, HO.out⟩
end
end Go.Proofs.YtplbgjjacomceaaGreatDoor.U
namespace Go.Proofs.YtplbgjjacomceaaGreatDoor.U
open Go.RowKit Go.Maps

theorem info_rdisk : (Tryz.prog.info? 109).map (fun i => (i.zero, i.size, i.bytes)) = some (some (.agg #[.pointer none, .pointer none]), 2, 16) := by kernel_rfl
/-- What the disks' table says when so many are opened. -/
def dv0 (a : Nat → Nat) (j : Nat) (i c : Nat) : Value := if c = 0 ∧ i < j then .pointer (some ⟨a i, 0, none⟩) else .pointer none
/-- A volume in the making. -/
structure OverRel (w wr : World) (p n v t mo mu j : Nat) (a : Nat → Nat) : Prop where
  root : wr.heap[v]? = some (.cells #[.pointer (some ⟨p, 0, none⟩), .int .i64 0, .int .i64 0, .int .i64 0, .int .i64 0, .int .i64 0, .int .i64 0, .int .i64 0, .int .i64 0, .int .i64 0, .slice (some ⟨t, 0, none⟩) n n, .map (some mo), .map (some mu)] 90 (0, 0))
  row : wr.ownsRow 0 109 2 (.slice (some ⟨t, 0, none⟩) n n) n (Sh.rowOf (dv0 a j) n 2)
  opens : wr.heap[mo]? = some (.map #[] 0)
  used : wr.heap[mu]? = some (.map #[] 0)
  dev : ∀ i, i < j → DevIs wr (a i) p i (-1)
  inj : ∀ i k, i < j → k < j → a i = a k → i = k
  low : ∀ i, i < j → v < a i
  ord : w.heap.size ≤ t ∧ t < mo ∧ mo < mu ∧ mu < v
  bel : Below w.heap.size w wr
/-- A function that is another at one place. -/
def atI (a : Nat → Nat) (j b : Nat) : Nat → Nat := fun i => if i = j then b else a i
theorem zero_rdisks (a : Nat → Nat) (n : Nat) : (madeCells (Value.agg #[.pointer none, .pointer none]).cells (n * 2)).toList = Sh.rowOf (dv0 a 0) n 2 := by
  apply List.ext_getElem?
  intro i
  by_cases h : i < n * 2
  · have h4 : i % 2 = 0 ∨ i % 2 = 1 := by omega
    rcases h4 with e | e <;> simp [madeCells, Sh.rowOf, Value.cells, h, e, dv0]
  · simp [madeCells, Sh.rowOf, h]
theorem over_start {w w1 : World} {p n m : Nat} (hown1 : w1.ownsRow 0 109 2 (.slice (some ⟨w.heap.size, 0, none⟩) n n) n (madeCells (Value.agg #[.pointer none, .pointer none]).cells (n * 2)).toList) (hgrow1 : (w.drewN m).grownBy w1 none) :
    OverRel w (((w1.alloc (.map #[] 0)).alloc (.map #[] 0)).alloc (.cells #[.pointer (some ⟨p, 0, none⟩), .int .i64 0, .int .i64 0, .int .i64 0, .int .i64 0, .int .i64 0, .int .i64 0, .int .i64 0, .int .i64 0, .int .i64 0, .slice (some ⟨w.heap.size, 0, none⟩) n n, .map (some w1.heap.size), .map (some (w1.heap.size + 1))] 90)) p n (w1.heap.size + 1 + 1) w.heap.size w1.heap.size (w1.heap.size + 1) 0 (fun _ => 0) := by
  rw [zero_rdisks (fun _ => 0)] at hown1
  have hlt : w.heap.size < w1.heap.size := (hown1.lt w.heap.size rfl).2
  have hb : Below w.heap.size w w1 := (drawn (Below.refl _ w) m).grown hgrow1 (Nat.le_refl _) (fun _ h => by cases h)
  have hs2 : ((w1.alloc (.map #[] 0)).alloc (.map #[] 0)).heap.size = w1.heap.size + 1 + 1 := by simp
  refine ⟨?_, ((hown1.alloc _).alloc _).alloc _, ?_, ?_, fun i h => absurd h (by omega), fun i k h => absurd h (by omega), fun i h => absurd h (by omega), ⟨Nat.le_refl _, hlt, by omega, by omega⟩, ?_⟩
  · rw [← hs2]; exact heap_alloc_new _ _
  · exact (Below.heap_alloc _ _ _ (by simp; omega)).trans (heap_alloc2_old w1 _ _)
  · exact (Below.heap_alloc _ _ _ (by simp)).trans (heap_alloc2_new w1 _ _)
  · exact ((hb.alloc hb.size _).alloc (by simp; omega) _).alloc (by simp; omega) _
theorem dv0_put (a : Nat → Nat) (n j b : Nat) (hj : j < n) : (Sh.rowOf (dv0 a j) n 2).set (j * 2 + 0) (.pointer (some ⟨b, 0, none⟩)) = Sh.rowOf (dv0 (atI a j b) (j + 1)) n 2 := by
  rw [Sh.rowOf_set _ (by decide)]
  refine Sh.rowOf_congr (by decide) fun i c _ hc => ?_
  unfold dv0 atI
  by_cases hi : i = j
  · subst hi
    by_cases h0 : c = 0
    · subst h0; simp
    · simp [h0]
  · by_cases h0 : c = 0
    · subst h0
      by_cases hlt : i < j
      · simp [hi, hlt, show i < j + 1 by omega]
      · simp [hi, hlt, show ¬ i < j + 1 by omega]
    · simp [h0]
theorem OverRel.next {w wr w4 : World} {p n v t mo mu j b : Nat} {a : Nat → Nat} (h : OverRel w wr p n v t mo mu j a) (hj : j < n) (hd : DevIs w4 b p j (-1)) (hb : Below wr.heap.size wr w4) (hbl : wr.heap.size ≤ b) :
    OverRel w (w4.setCell ⟨t, j * 2, none⟩ (.pointer (some ⟨b, 0, none⟩))) p n v t mo mu (j + 1) (atI a j b) := by
  have ht := (h.row.lt t rfl).2
  have hv := lt_of_block h.root
  obtain ⟨o1, o2, o3, o4⟩ := h.ord
  have hk : ∀ x, x ≠ t → (w4.setCell ⟨t, j * 2, none⟩ (.pointer (some ⟨b, 0, none⟩))).heap[x]? = w4.heap[x]? := fun x hx => Sh.heap_set_other _ _ _ hx
  have hr0 : w4.ownsRow 0 109 2 (.slice (some ⟨t, 0, none⟩) n n) n (Sh.rowOf (dv0 a j) n 2) := Sh.same_row h.row fun x hx => by
    injection hx with hx; subst hx; exact hb.block _ ht
  have hr1 := (hr0.stored (j * 2 + 0) (.pointer (some ⟨b, 0, none⟩))).1
  rw [dv0_put a n j b hj] at hr1
  refine ⟨?_, hr1, ?_, ?_, fun i hi => ?_, fun i k hi hk2 e => ?_, fun i hi => ?_, h.ord, (h.bel.trans (hb.mono h.bel.size)).setCell (p := ⟨t, j * 2, none⟩) o1 _⟩
  · exact (hk v (by omega)).trans ((hb.block v hv).trans h.root)
  · exact (hk mo (by omega)).trans ((hb.block mo (by omega)).trans h.opens)
  · exact (hk mu (by omega)).trans ((hb.block mu (by omega)).trans h.used)
  · unfold atI
    by_cases e : i = j
    · subst e
      rw [if_pos rfl]
      exact hd.same (hk b (by omega))
    · rw [if_neg e]
      have hdi := h.dev i (by omega)
      have hlo := h.low i (by omega)
      exact hdi.same ((hk (a i) (by omega)).trans (hb.block _ hdi.lt))
  · unfold atI at e
    by_cases ei : i = j
    · by_cases ek : k = j
      · omega
      · rw [if_pos ei, if_neg ek] at e
        have := (h.dev k (by omega)).lt
        omega
    · by_cases ek : k = j
      · rw [if_neg ei, if_pos ek] at e
        have := (h.dev i (by omega)).lt
        omega
      · rw [if_neg ei, if_neg ek] at e
        exact h.inj i k (by omega) (by omega) e
  · unfold atI
    by_cases e : i = j
    · rw [if_pos e]; omega
    · rw [if_neg e]; exact h.low i (by omega)
/-- The volume's table in a world that grew out of the loop's. -/
theorem OverRel.facts {w wr w' : World} {p n v t mo mu j : Nat} {a : Nat → Nat} (h : OverRel w wr p n v t mo mu j a) (hb : Below wr.heap.size wr w') : w'.cell? ⟨v, 10, none⟩ = some (.slice (some ⟨t, 0, none⟩) n n) ∧ w'.frozen? ⟨t, j * 2, none⟩ = false ∧ (j < n → w'.cell? ⟨t, j * 2, none⟩ = some (.pointer none)) := by
  have ht := (h.row.lt t rfl).2
  have hv := lt_of_block h.root
  refine ⟨?_, ?_, fun hj => ?_⟩
  · rw [hb.cell (p := ⟨v, 10, none⟩) hv]; exact cell_of_row _ _ 10 _ _ _ h.root
  · rw [hb.frozen (p := ⟨t, j * 2, none⟩) ht]; exact h.row.frozenAt _
  · have e := Sh.cell_at h.row (Sh.rowOf_at (c := 0) _ hj (by decide))
    rw [Nat.add_zero] at e
    rw [hb.cell (p := ⟨t, j * 2, none⟩) ht, e]
    unfold dv0
    rw [if_neg (by omega)]
theorem below_only0 {w w1 : World} (h : Below w.heap.size w w1) : Sh.Only (fun _ => False) w w1 := ⟨h.os, h.tape, h.output, h.size, fun k hk _ => h.block k hk⟩
theorem open_in {w wr : World} {p n d : Nat} {S : Sh.Sf} {F : Nat → Prop} (h : Sh.Shelf w p S F) (hn : S.disks.length = n) (hb : Below w.heap.size w wr) (hd : d < n) (w3 : World) (h3 : Below wr.heap.size wr w3) :
    Calls Tryz.prog 32 #[.pointer (some ⟨p, 0, none⟩), .int .i64 d] w3 fun e w' => ∃ b, e = .returned (.tuple #[.pointer (some ⟨b, 0, none⟩), .int .i64 0]) ∧ DevIs w' b p d (-1) ∧ wr.heap.size ≤ b ∧ Below wr.heap.size wr w' := by
  have hs3 : Sh.Shelf w3 p S F := h.only (G := fun _ => False) (below_only0 (hb.trans (h3.mono hb.size))) (fun _ _ e => e)
  refine (open_yes d hs3 (by omega)).mono ?_
  rintro e w' ⟨rfl, hd, hb2⟩
  exact ⟨_, rfl, hd, h3.size, h3.trans (hb2.mono h3.size)⟩
set_option maxRecDepth 20000 in
set_option maxHeartbeats 1600000 in
theorem over_ok (w : World) (p n : Nat) {S : Sh.Sf} {F : Nat → Prop} (h : Sh.Shelf w p S F) (hn : S.disks.length = n) (h1 : 1 ≤ n) (h17 : n ≤ 17) :
    Calls Tryz.prog 85 #[.pointer (some ⟨p, 0, none⟩)] w fun e w' => ∃ v t mo mu a, e = .returned (.pointer (some ⟨v, 0, none⟩)) ∧ OverRel w w' p n v t mo mu n a := by
  obtain ⟨i0, hi, hz0, hz1, hz2⟩ := info_parts info_rdisk
  have hs := Lib.hid (size_of h)
  have H := Lib.hid h
  have HN := Lib.hid hn
  rw [hn] at hs
  clear hn h
  have hmm := @run_makeMap Tryz.prog
  go_enter Tryz.func85, Tryz.ntmps85
  go_wp2_with fail
  refine hs.out.mono ?_
  rintro e w0 ⟨rfl, m, rfl⟩
  go_wp2_with (at_make; refine wpList_make_full _ rfl _ _ 86 rfl 0 109 i0 _ 2 Tryz.underlying86 hi hz0 hz1 _ _ _ _ n rfl rfl rfl rfl (by rw [hz2]; omega) (by unfold maxLen; omega) (Nat.zero_le _) ?_; intro w1 hown1 hgrow1)
  have hst := over_start (w := w) (m := m) (p := p) hown1 hgrow1
  clear hown1 hgrow1 hi hz0 hz1 hz2 hmm
  generalize hv : w1.heap.size + 1 + 1 = v at *
  generalize hmu : w1.heap.size + 1 = mu at *
  generalize hmo : w1.heap.size = mo at *
  generalize ht : w.heap.size = t at *
  clear hv hmu hmo
  have HT := Lib.hid ht
  clear ht
  generalize (((w1.alloc (.map #[] 0)).alloc (.map #[] 0)).alloc (.cells #[.pointer (some ⟨p, 0, none⟩), .int .i64 0, .int .i64 0, .int .i64 0, .int .i64 0, .int .i64 0, .int .i64 0, .int .i64 0, .int .i64 0, .int .i64 0, .slice (some ⟨t, 0, none⟩) n n, .map (some mo), .map (some mu)] 90)) = w2 at *
  have hrel0 : Hid (∃ a, OverRel w w2 p n v t mo mu 0 a) := Lib.hid ⟨_, hst⟩
  clear hst
  go_loopw [24] (fun i wr => ∃ j : Nat, j ≤ n ∧ i = .int .i64 j ∧ Hid (∃ a, OverRel w wr p n v t mo mu j a)) (fun i _ => n - (intOf i).toNat)
  case atStart => exact ⟨0, Nat.zero_le _, rfl, hrel0⟩
  case round =>
    obtain ⟨j, hj, rfl, hrel⟩ := hrel
    obtain ⟨a, hN⟩ := hrel.out
    have c10 := (hN.facts (Below.refl _ wr)).1
    have hvl := lt_of_block hN.root
    have HN2 := Lib.hid hN
    clear hN hrel
    by_cases hlt : j < n
    · go_wp2
      go_region_with (go_at_call 32; refine (open_in H.out HN.out HN2.out.bel hlt _ (by first | exact (Below.refl _ wr).drew | exact Below.refl _ wr)).mono ?_; rintro e w4 ⟨b, rfl, hd, hbl, hb4⟩; obtain ⟨c10', f0, c0⟩ := HN2.out.facts hb4; have c0 := c0 hlt)
      all_goals
        go_wp2
        go_roundw
        case rel => exact ⟨j + 1, by omega, by go_num, Lib.hid ⟨_, HN2.out.next hlt hd hb4 hbl⟩⟩
        case measure => simp [intOf]; omega
    · obtain rfl : j = n := by omega
      go_wp2
      go_ret
      exact ⟨v, t, mo, mu, a, rfl, HN2.out⟩
end Go.Proofs.YtplbgjjacomceaaGreatDoor.U
namespace Go.Proofs.YtplbgjjacomceaaGreatDoor.U
open Go.RowKit Go.Maps

/-- What the disks' table says. -/
def dvG (a : Nat → Nat) (g : Nat → Option Addr) (i c : Nat) : Value := if c = 0 then .pointer (some ⟨a i, 0, none⟩) else .pointer (g i)
/-- A volume lies in block v: of the shelf in block p; its disks' table lies in block t, its sets in mo and mu. -/
structure VolIs (w : World) (v p t n mo mu : Nat) (s : Go.Proofs.YtplbgjjacomceaaGreatDoor.S.Sup) (base : Int) (a : Nat → Nat) (g : Nat → Option Addr) : Prop where
  root : w.heap[v]? = some (.cells #[.pointer (some ⟨p, 0, none⟩), .int .i64 s.gen, .int .i64 s.mem, .int .i64 s.disk, .int .i64 s.str, .int .i64 s.logs, .int .i64 s.spare, .int .i64 s.mark, .int .i64 s.cur, .int .i64 base, .slice (some ⟨t, 0, none⟩) n n, .map (some mo), .map (some mu)] 90 (0, 0))
  row : w.ownsRow 0 109 2 (.slice (some ⟨t, 0, none⟩) n n) n (Sh.rowOf (dvG a g) n 2)
def sup0 : Go.Proofs.YtplbgjjacomceaaGreatDoor.S.Sup := ⟨0, 0, 0, 0, 0, 0, 0, 0⟩
section
variable {w w' : World} {v p t n mo mu : Nat} {s : Go.Proofs.YtplbgjjacomceaaGreatDoor.S.Sup} {base : Int} {a : Nat → Nat} {g : Nat → Option Addr}
theorem VolIs.vlt (h : VolIs w v p t n mo mu s base a g) : v < w.heap.size := lt_of_block h.root
theorem VolIs.tlt (h : VolIs w v p t n mo mu s base a g) : t < w.heap.size := (h.row.lt t rfl).2
theorem VolIs.kept (h : VolIs w v p t n mo mu s base a g) (hv : w'.heap[v]? = w.heap[v]?) (ht : w'.heap[t]? = w.heap[t]?) : VolIs w' v p t n mo mu s base a g :=
  ⟨hv.trans h.root, Sh.same_row h.row fun x hx => by injection hx with hx; subst hx; exact ht⟩
theorem VolIs.c10 (h : VolIs w v p t n mo mu s base a g) : w.cell? ⟨v, 10, none⟩ = some (.slice (some ⟨t, 0, none⟩) n n) := cell_of_row _ _ 10 _ _ _ h.root
theorem VolIs.dev (h : VolIs w v p t n mo mu s base a g) {j : Nat} (hj : j < n) : w.cell? ⟨t, j * 2, none⟩ = some (.pointer (some ⟨a j, 0, none⟩)) := by
  have e := Sh.cell_at h.row (Sh.rowOf_at (c := 0) _ hj (by decide))
  rw [Nat.add_zero] at e
  exact e
theorem VolIs.log (h : VolIs w v p t n mo mu s base a g) {j : Nat} (hj : j < n) : w.cell? ⟨t, j * 2 + 1, none⟩ = some (.pointer (g j)) := Sh.cell_at h.row (Sh.rowOf_at (c := 1) _ hj (by decide))
end
/-- A volume, its disks' blocks and their shelf, that the call made: all lies from block B on. -/
structure Vo (B : Nat) (W w : World) (v p t n mo mu : Nat) (s : Go.Proofs.YtplbgjjacomceaaGreatDoor.S.Sup) (base : Int) (a : Nat → Nat) (o : Nat → Int) (g : Nat → Option Addr) (S : Sh.Sf) (F : Nat → Prop) : Prop where
  ds : Devs B W w p n a o S F
  vol : VolIs w v p t n mo mu s base a g
  apart : ∀ b, AllB F a n b → b ≠ v ∧ b ≠ t ∧ b ≠ mo ∧ b ≠ mu
  low : B ≤ v ∧ B ≤ t ∧ B ≤ mo ∧ B ≤ mu
  lt : mo < w.heap.size ∧ mu < w.heap.size
/-- What a call of the disks leaves of a volume. -/
def VGoes (B : Nat) (W w w' : World) (v p t n mo mu : Nat) (s : Go.Proofs.YtplbgjjacomceaaGreatDoor.S.Sup) (base : Int) (a : Nat → Nat) (o : Nat → Int) (g : Nat → Option Addr) (S : Sh.Sf) (F : Nat → Prop) : Prop :=
  ∃ F', Vo B W w' v p t n mo mu s base a o g S F' ∧ Sh.Moves (AllB F a n) w (AllB F' a n) w'
section
variable {B : Nat} {W w w' w'' : World} {v p t n mo mu : Nat} {s : Go.Proofs.YtplbgjjacomceaaGreatDoor.S.Sup} {base : Int} {a : Nat → Nat} {o o' : Nat → Int} {g : Nat → Option Addr} {S S' : Sh.Sf} {F F' : Nat → Prop}
theorem Vo.goes (h : Vo B W w v p t n mo mu s base a o g S F) (hG : DsGoes B W w w' p n a o' S' F) : VGoes B W w w' v p t n mo mu s base a o' g S' F := by
  obtain ⟨F', D, m⟩ := hG
  have hv := h.vol.vlt
  have ht := h.vol.tlt
  obtain ⟨l1, l2⟩ := h.lt
  have hk : ∀ b, b < w.heap.size → (∀ x, AllB F a n x → x ≠ b) → w'.heap[b]? = w.heap[b]? := fun b hb hx => m.1.block b hb fun e => hx b e rfl
  refine ⟨F', ⟨D, h.vol.kept (hk v hv fun x hx => (h.apart x hx).1) (hk t ht fun x hx => (h.apart x hx).2.1), fun b hb => ?_, h.low, ⟨Nat.lt_of_lt_of_le l1 m.1.size, Nat.lt_of_lt_of_le l2 m.1.size⟩⟩, m⟩
  rcases m.2 b hb with e | e
  · exact h.apart b e
  · refine ⟨?_, ?_, ?_, ?_⟩ <;> omega
theorem Vo.grown (h : Vo B W w v p t n mo mu s base a o g S F) (hb : Below w.heap.size w w') : Vo B W w' v p t n mo mu s base a o g S F :=
  ⟨h.ds.grown hb, h.vol.kept (hb.block _ h.vol.vlt) (hb.block _ h.vol.tlt), h.apart, h.low, ⟨Nat.lt_of_lt_of_le h.lt.1 hb.size, Nat.lt_of_lt_of_le h.lt.2 hb.size⟩⟩
theorem VGoes.here (h : Vo B W w v p t n mo mu s base a o g S F) (hb : Below w.heap.size w w') : VGoes B W w w' v p t n mo mu s base a o g S F :=
  ⟨F, h.grown hb, ⟨hb.os, hb.tape, hb.output, hb.size, fun k hk _ => hb.block k hk⟩, fun _ hb => .inl hb⟩
theorem VGoes.trans (m : Sh.Moves (AllB F a n) w (AllB F' a n) w') (k : VGoes B W w' w'' v p t n mo mu s base a o' g S' F') : VGoes B W w w'' v p t n mo mu s base a o' g S' F := by
  obtain ⟨F2, V2, m2⟩ := k
  exact ⟨F2, V2, m.trans m2⟩
/-- What over has made, among other memory. -/
theorem over_vo (h : Sh.At B W w p S F) {a : Nat → Nat} (hO : OverRel w w' p n v t mo mu n a) : Vo B W w' v p t n mo mu sup0 0 a (fun _ => -1) (fun _ => none) S F := by
  obtain ⟨o1, o2, o3, o4⟩ := hO.ord
  have hs := h.size
  have hv := lt_of_block hO.root
  have hlt : ∀ b, F b → b < w.heap.size := fun b hb => h.shelf.ltF hb
  refine ⟨⟨h.grown hO.bel, hO.dev, fun i hi e => ?_, hO.inj, fun i hi => ?_⟩, ⟨hO.root, ?_⟩, fun b hb => ?_, ⟨by omega, by omega, by omega, by omega⟩, ⟨by omega, by omega⟩⟩
  · have := hlt _ e; have := hO.low i hi; omega
  · have := hO.low i hi; omega
  · have e : Sh.rowOf (dv0 a n) n 2 = Sh.rowOf (dvG a (fun _ => none)) n 2 := Sh.rowOf_congr (by decide) fun i c hi _ => by
      unfold dv0 dvG
      by_cases h0 : c = 0 <;> simp [h0, hi]
    rw [← e]
    exact hO.row
  · rcases hb with e | ⟨i, hi, rfl⟩
    · have := hlt _ e; omega
    · have := hO.low i hi; omega
end
/-! ### butDead, flushDisks -/
/-- What a disk refuses, if it is not that it is dead. -/
def bd (y : Int) : Int := if y = 4 then 0 else y
theorem butDead_any (y : Int) (w : World) : Calls Tryz.prog 105 #[.int .i64 y] w fun e w' => e = .returned (.int .i64 (bd y)) ∧ w = w' := by
  by_cases h : y = 4
  · subst h
    go_enter Tryz.func105, Tryz.ntmps105
    go_wp2
    go_ret
    exact ⟨rfl, rfl⟩
  · have hq : (y == 4) = false := by rw [beq_eq_false_iff_ne]; exact h
    have hx := Lib.hid (show bd y = y from if_neg h)
    clear h
    go_enter Tryz.func105, Tryz.ntmps105
    go_wp2
    go_ret
    exact ⟨by rw [hx.out]; rfl, rfl⟩
/-- So many disks are flushed: the shelf, and what it told; behind something else than nothing no other one is flushed. -/
def fdS (S : Sh.Sf) : Nat → Sh.Sf × Int
  | 0 => (S, 0)
  | d + 1 => if (fdS S d).2 = 0 then (Fl (fdS S d).1 d, bd (Sh.why (fdS S d).1 d)) else fdS S d
theorem fdS_stop (S : Sh.Sf) {k n : Nat} (h : (fdS S k).2 ≠ 0) (hk : k ≤ n) : fdS S n = fdS S k := by
  induction n with
  | zero => have : k = 0 := by omega
            rw [this]
  | succ n ih =>
    by_cases e : k = n + 1
    · rw [e]
    · have e2 := ih (by omega)
      show (if (fdS S n).2 = 0 then _ else fdS S n) = _
      rw [if_neg (by rw [e2]; exact h), e2]
theorem fdS_succ (S : Sh.Sf) {d : Nat} (h : (fdS S d).2 = 0) : fdS S (d + 1) = (Fl (fdS S d).1 d, bd (Sh.why (fdS S d).1 d)) := if_pos h
theorem fdS_length (S : Sh.Sf) (k : Nat) : (fdS S k).1.disks.length = S.disks.length := by
  induction k with
  | zero => rfl
  | succ k ih =>
    unfold fdS
    split
    · exact (fl_length _ _).trans ih
    · exact ih
theorem fdS_waits {S : Sh.Sf} {m : Nat} (hL : ∀ k ∈ S.disks, k.waits.length < m) (k : Nat) : ∀ x ∈ (fdS S k).1.disks, x.waits.length < m := by
  induction k with
  | zero => exact hL
  | succ k ih =>
    unfold fdS
    split
    · exact fl_waits ih
    · exact ih
section
variable {B : Nat} {W w : World} {v p t n mo mu : Nat} {s : Go.Proofs.YtplbgjjacomceaaGreatDoor.S.Sup} {base : Int} {a : Nat → Nat} {o : Nat → Int} {g : Nat → Option Addr} {S : Sh.Sf} {F : Nat → Prop}
/-- The loop of flushDisks. -/
def FdRel (B : Nat) (W w wr : World) (v p t n mo mu : Nat) (s : Go.Proofs.YtplbgjjacomceaaGreatDoor.S.Sup) (base : Int) (a : Nat → Nat) (g : Nat → Option Addr) (S : Sh.Sf) (F : Nat → Prop) (j : Nat) : Prop :=
  (fdS S j).2 = 0 ∧ ∃ o', VGoes B W w wr v p t n mo mu s base a o' g (fdS S j).1 F
theorem flushDisks_any (h : Vo B W w v p t n mo mu s base a o g S F) (hn : S.disks.length = n) (hL : ∀ k ∈ S.disks, k.waits.length < 1099511627776) :
    Calls Tryz.prog 52 #[.pointer (some ⟨v, 0, none⟩)] w fun e w' => e = .returned (.int .i64 (fdS S n).2) ∧ ∃ o', VGoes B W w w' v p t n mo mu s base a o' g (fdS S n).1 F := by
  have c10 := h.vol.c10
  have h17 : n ≤ 17 := by
    obtain ⟨D, gs, q⟩ := h.ds.on.shelf
    have := q.most
    omega
  have hrel0 : Hid (FdRel B W w w v p t n mo mu s base a g S F 0) := Lib.hid ⟨rfl, o, VGoes.here h (Below.refl _ w)⟩
  have HN := Lib.hid hn
  have HL := Lib.hid hL
  have hbd := Lib.hid butDead_any
  clear h hn hL
  go_enter Tryz.func52, Tryz.ntmps52
  go_wp2
  clear c10
  go_loopw [11] (fun i wr => ∃ j : Nat, j ≤ n ∧ i = .int .i64 j ∧ Hid (FdRel B W w wr v p t n mo mu s base a g S F j)) (fun i _ => n - (intOf i).toNat)
  case atStart => exact ⟨0, Nat.zero_le _, rfl, hrel0⟩
  case round =>
    obtain ⟨j, hj, rfl, hrel⟩ := hrel
    obtain ⟨hz, o1, F1, V1, M1⟩ := hrel.out
    by_cases hlt : j < n
    · have d0 := V1.vol.dev hlt
      have d1 := V1.vol.log hlt
      have hb : Below wr.heap.size wr (wr.alloc (.cells #[.pointer (some ⟨a j, 0, none⟩), .pointer (g j)] 109)) := (Below.refl _ _).alloc (Nat.le_refl _) _
      have V2 := V1.grown hb
      have HFL := Lib.hid (flush_dev (V2.ds.dv hlt) (by rw [fdS_length, HN.out]; exact hlt) (fdS_waits HL.out j))
      have hs2 := fdS_succ S hz
      have M2 : Sh.Moves (AllB F a n) w (AllB F1 a n) (wr.alloc (.cells #[.pointer (some ⟨a j, 0, none⟩), .pointer (g j)] 109)) := M1.trans ⟨⟨hb.os, hb.tape, hb.output, hb.size, fun k hk _ => hb.block k hk⟩, fun _ hb => .inl hb⟩
      generalize hy : Sh.why (fdS S j).1 j = y at *
      have hbe : Hid (∀ w, Calls Tryz.prog 105 #[.int .i64 y] w fun e w' => e = .returned (.int .i64 (bd y)) ∧ w = w') := Lib.hid (hbd.out y)
      generalize hzz : bd y = z at *
      have KEEP := Lib.hid (And.intro hs2 (And.intro V2 M2))
      clear hy hzz hb V1 M1 V2 hz hrel hs2 M2
      go_wp2_with fail
      refine HFL.out.mono ?_
      rintro e w2 ⟨rfl, hG⟩
      obtain ⟨hs2, V2, M2⟩ := KEEP.out
      have HG := Lib.hid (VGoes.trans M2 (V2.goes (V2.ds.goes hlt hG)))
      have HS := Lib.hid hs2
      clear hG hs2 V2 M2 KEEP d0 d1 HFL
      by_cases h0 : z = 0
      · subst h0
        go_wp2_with (go_at_call 105; refine (hbe.out _).mono ?_; rintro e w' ⟨rfl, rfl⟩)
        go_roundw
        case rel => exact ⟨j + 1, by omega, by go_num, Lib.hid ⟨by rw [HS.out], _, by rw [HS.out]; exact HG.out⟩⟩
        case measure => simp [intOf]; omega
      · have hq : (z == 0) = false := by rw [beq_eq_false_iff_ne]; exact h0
        have hst := Lib.hid (fdS_stop S (k := j + 1) (n := n) (by rw [HS.out]; exact h0) hlt)
        clear h0
        go_wp2_with (go_at_call 105; refine (hbe.out _).mono ?_; rintro e w' ⟨rfl, rfl⟩)
        go_ret
        exact ⟨by rw [hst.out, HS.out]; rfl, _, by rw [hst.out, HS.out]; exact HG.out⟩
    · obtain rfl : j = n := by omega
      have HZ := Lib.hid hz
      have HR := Lib.hid hrel.out.2
      clear hz hrel V1 M1
      go_wp2
      go_ret
      exact ⟨by rw [HZ.out]; rfl, HR.out⟩
end
end Go.Proofs.YtplbgjjacomceaaGreatDoor.U
namespace Go.Proofs.YtplbgjjacomceaaGreatDoor.U
open Go.RowKit Go.Maps

/-- Two shelves that differ in the count alone. -/
structure Same (S T : Sh.Sf) : Prop where
  disks : T.disks = S.disks
  sectors : T.sectors = S.sectors
  off : T.off = S.off
  left : T.left = S.left
theorem Same.refl (S : Sh.Sf) : Same S S := ⟨rfl, rfl, rfl, rfl⟩
theorem Same.looked {S T : Sh.Sf} (h : Same S T) (d : Nat) : Same S (Looked T d) :=
  ⟨(looked_disks T d).trans h.disks, (looked_sectors T d).trans h.sectors, (looked_off T d).1.trans h.off, (looked_off T d).2.trans h.left⟩
theorem Same.calm {S T : Sh.Sf} (h : Same S T) {d : Nat} (c : Calm S d) : Calm T d := by
  obtain ⟨c1, c2, c3, c4, c5⟩ := c
  exact ⟨by rw [h.disks]; exact c1, h.off.trans c2, h.left.trans c3, by rw [h.disks]; exact c4, by rw [h.disks, h.sectors]; exact c5⟩
theorem Same.V {S T : Sh.Sf} (h : Same S T) (d n : Nat) : U.V T d n = U.V S d n := by unfold U.V; rw [h.disks]
theorem Same.good {S T : Sh.Sf} (h : Same S T) (d k : Nat) : goodAt T d k = goodAt S d k := by unfold goodAt; rw [h.V, h.V]
/-- All of so many disks are calm. -/
def Calms (S : Sh.Sf) (n : Nat) : Prop := ∀ d, d < n → Calm S d
theorem calm_fl {S : Sh.Sf} {d e : Nat} (c : Calm S d) (h : Calm S e) : Calm (Fl S d) e := by
  by_cases he : e = d
  · subst he; exact c.fl
  · have hg := fl_getD S d c.lt c.why e
    rw [if_neg he] at hg
    have hf := c.fl
    obtain ⟨_, f2, f3, _, _⟩ := hf
    obtain ⟨h1, _, _, h4, h5⟩ := h
    exact ⟨by rw [fl_length]; exact h1, f2, f3, by rw [hg]; exact h4, by rw [hg, fl_sectors]; exact h5⟩
theorem fdS_calm {S : Sh.Sf} {n : Nat} (h : Calms S n) {k : Nat} (hk : k ≤ n) : (fdS S k).2 = 0 ∧ Calms (fdS S k).1 n := by
  induction k with
  | zero => exact ⟨rfl, h⟩
  | succ k ih =>
    obtain ⟨h1, h2⟩ := ih (by omega)
    rw [fdS_succ S h1]
    refine ⟨?_, fun d hd => calm_fl (h2 k (by omega)) (h2 d hd)⟩
    show bd (Sh.why (fdS S k).1 k) = 0
    rw [(h2 k (by omega)).why]
    rfl
section
variable {B : Nat} {W w w' : World} {v p t n mo mu : Nat} {s : Go.Proofs.YtplbgjjacomceaaGreatDoor.S.Sup} {base : Int} {a : Nat → Nat} {o : Nat → Int} {g : Nat → Option Addr} {S S' : Sh.Sf} {F : Nat → Prop}
/-- A call that reads, of a disk's blocks. -/
theorem Vo.reads (h : Vo B W w v p t n mo mu s base a o g S F) {i : Nat} (hD : Dv B W w' (a i) p i (o i) S' F) (ho : Sh.Only F w w') : VGoes B W w w' v p t n mo mu s base a o g S' F :=
  h.goes ⟨F, h.ds.stays hD.on.shelf ho, ho.mono fun _ hb => .inl hb, fun _ hb => .inl hb⟩
/-- The loops of makeNoughts. -/
def NoRel (B : Nat) (W w wr : World) (v p t n mo mu : Nat) (s : Go.Proofs.YtplbgjjacomceaaGreatDoor.S.Sup) (base : Int) (a : Nat → Nat) (o : Nat → Int) (g : Nat → Option Addr) (S : Sh.Sf) (F : Nat → Prop) : Prop :=
  ∃ T, Same S T ∧ VGoes B W w wr v p t n mo mu s base a o g T F
theorem noughts_calm (h : Vo B W w v p t n mo mu s base a o g S F) (hT : Tabs W) (hTB : max 1 2 + 1 ≤ B) (hn : S.disks.length = n) (hL : ∀ k ∈ S.disks, k.waits.length < 1099511627776) (hc : Calms S n)
    (x : Go.Proofs.YtplbgjjacomceaaGreatDoor.S.Sup) (str logs : Nat) (hx1 : x.str = (str : Int)) (hx2 : x.logs = (logs : Int)) (h1 : 1 ≤ logs) (h2 : logs ≤ 8) (h3 : 1 ≤ str) (h4 : str ≤ 1024) (hb : 2 + 2 * logs + str ≤ blk S.sectors)
    (hz : ∀ d, d < n → ∀ k, k < 2 + 2 * logs + str → goodAt S d k = true ∧ V S d (dataOf k) = Sh.noughts) :
    Calls Tryz.prog 96 #[.pointer (some ⟨v, 0, none⟩), x.val] w fun e w' => e = .returned (.int .i64 0) ∧ ∃ o' T, Same S T ∧ VGoes B W w w' v p t n mo mu s base a o' g (fdS T n).1 F := by
  have h17 : n ≤ 17 := by
    obtain ⟨D, gs, q⟩ := h.ds.on.shelf
    have := q.most
    omega
  have hnd := Lib.hid (need_ok str logs h1 h2 h3 h4)
  have hbw : Below w.heap.size w (w.alloc (.cells x.cells 65)) := (Below.refl _ _).alloc (Nat.le_refl _) _
  have hrel0 : Hid (NoRel B W w (w.alloc (.cells x.cells 65)) v p t n mo mu s base a o g S F) := Lib.hid ⟨S, Same.refl S, VGoes.here h hbw⟩
  have q0 := heap_alloc_new w (.cells x.cells 65)
  have c3 := cell_of_row _ _ 3 _ _ _ q0
  have c4 := cell_of_row _ _ 4 _ _ _ q0
  have hv := Lib.hid (h.vol.vlt)
  unfold Go.Proofs.YtplbgjjacomceaaGreatDoor.S.Sup.val
  simp only [Go.Proofs.YtplbgjjacomceaaGreatDoor.S.Sup.cells, List.getElem?_toArray, List.getElem?_cons_zero, List.getElem?_cons_succ, hx1, hx2] at *
  generalize hN : 2 + 2 * logs + str = need at *
  have hneed : need ≤ 1042 := by omega
  clear hN h h1 h2 h3 h4 hx1 hx2
  go_enter Tryz.func96, Tryz.ntmps96
  go_wp2_with (go_at_call 136; refine (hnd.out _).mono ?_; rintro e w' ⟨rfl, rfl⟩)
  clear q0 c3 c4 hnd hbw
  generalize w.alloc _ = w0 at *
  go_loopw [23] (fun i wr => ∃ k : Nat, k ≤ need ∧ i = .int .i64 k ∧ Hid (NoRel B W w wr v p t n mo mu s base a o g S F)) (fun i _ => need - (intOf i).toNat)
  case atStart => exact ⟨0, Nat.zero_le _, rfl, hrel0⟩
  case round =>
    obtain ⟨k, hk, rfl, hrel⟩ := hrel
    by_cases hkt : k < need
    · obtain ⟨T0, _, F0, V0, _⟩ := hrel.out
      have c10 := V0.vol.c10
      clear V0
      go_wp2
      clear c10
      go_loopw [31] (fun i wr => ∃ j : Nat, j ≤ n ∧ i = .int .i64 j ∧ Hid (NoRel B W w wr v p t n mo mu s base a o g S F)) (fun i _ => n - (intOf i).toNat)
      case atStart => exact ⟨0, Nat.zero_le _, rfl, hrel⟩
      case round =>
        obtain ⟨j, hj, rfl, hrel⟩ := hrel
        by_cases hlt : j < n
        · obtain ⟨T, hS, F1, V1, M1⟩ := hrel.out
          have d0 := V1.vol.dev hlt
          have d1 := V1.vol.log hlt
          have hbw : Below wr.heap.size wr (wr.alloc (.cells #[.pointer (some ⟨a j, 0, none⟩), .pointer (g j)] 109)) := (Below.refl _ _).alloc (Nat.le_refl _) _
          have hl := heap_alloc_new wr (.cells #[.pointer (some ⟨a j, 0, none⟩), .pointer (g j)] 109)
          have V2 := V1.grown hbw
          obtain ⟨z1, z2⟩ := hz j hlt k hkt
          have HNO := Lib.hid (nought_calm (V2.ds.dv hlt) hT hTB (hS.calm (hc j hlt)) k (by rw [hS.sectors]; omega) (by rw [hS.good]; exact z1) (by rw [hS.V]; exact z2) (g j))
          have M2 : Sh.Moves (AllB F a n) w (AllB F1 a n) (wr.alloc (.cells #[.pointer (some ⟨a j, 0, none⟩), .pointer (g j)] 109)) := M1.trans ⟨⟨hbw.os, hbw.tape, hbw.output, hbw.size, fun k hk _ => hbw.block k hk⟩, fun _ hb => .inl hb⟩
          have KEEP := Lib.hid (And.intro hS (And.intro V2 M2))
          clear hbw V1 M1 V2 hrel M2 hS z1 z2
          have l0 := cell_of_row _ _ 0 _ _ _ hl
          have l1 := cell_of_row _ _ 1 _ _ _ hl
          simp only [List.getElem?_toArray, List.getElem?_cons_zero, List.getElem?_cons_succ] at l0 l1
          clear hl
          go_wp2_with fail
          refine HNO.out.mono ?_
          rintro e w2 ⟨rfl, hD, hO⟩
          obtain ⟨hS, V2, M2⟩ := KEEP.out
          have HG := Lib.hid (show NoRel B W w w2 v p t n mo mu s base a o g S F from ⟨_, hS.looked j, VGoes.trans M2 (V2.reads hD hO)⟩)
          clear hD hO hS V2 M2 KEEP d0 d1 l0 l1 HNO
          go_wp2
          go_roundw
          case rel => exact ⟨j + 1, by omega, by go_num, HG⟩
          case measure => simp [intOf]; omega
        · obtain rfl : j = n := by omega
          go_wp2
          go_roundw
          case rel => exact ⟨k + 1, by omega, by go_num, hrel⟩
          case measure => simp [intOf]; omega
    · obtain rfl : k = need := by omega
      obtain ⟨T, hS, F1, V1, M1⟩ := hrel.out
      have HFD := Lib.hid (flushDisks_any V1 (by rw [hS.disks]; exact hn) (by rw [hS.disks]; exact hL))
      have hz0 := (fdS_calm (S := T) (n := n) (fun d hd => hS.calm (hc d hd)) (Nat.le_refl n)).1
      rw [hz0] at HFD
      have KEEP := Lib.hid (And.intro hS M1)
      clear hrel hS V1 M1 hz0
      go_wp2_with (go_at_call 52; refine HFD.out.mono ?_; rintro e w2 ⟨rfl, o', hG⟩)
      go_ret
      exact ⟨rfl, o', T, KEEP.out.1, VGoes.trans KEEP.out.2 hG⟩
end
end Go.Proofs.YtplbgjjacomceaaGreatDoor.U
namespace Go.Proofs.YtplbgjjacomceaaGreatDoor.U
open Go.RowKit Go.Maps

/-- All disks but one are as they were. -/
def Alike (d : Nat) (S T : Sh.Sf) : Prop := T.disks.length = S.disks.length ∧ ∀ e, e ≠ d → T.disks.getD e default = S.disks.getD e default
theorem Alike.refl (d : Nat) (S : Sh.Sf) : Alike d S S := ⟨rfl, fun _ _ => rfl⟩
theorem Alike.trans {d : Nat} {S T U : Sh.Sf} (h : Alike d S T) (k : Alike d T U) : Alike d S U := ⟨k.1.trans h.1, fun e he => (k.2 e he).trans (h.2 e he)⟩
theorem getD_set_ne {l : List Sh.Dk} {d e : Nat} (x : Sh.Dk) (h : e ≠ d) : (l.set d x).getD e default = l.getD e default := by
  simp [List.getD, List.getElem?_set_ne (Ne.symm h)]
theorem alike_wr (S : Sh.Sf) (d n : Nat) (b : Sh.Bs) : Alike d S (Wr S d n b) := by
  unfold Wr
  split
  · exact ⟨List.length_set, fun e he => getD_set_ne _ he⟩
  · exact Alike.refl d S
theorem alike_fl (S : Sh.Sf) (d : Nat) : Alike d S (Fl S d) := by
  unfold Fl
  split
  · exact ⟨List.length_set, fun e he => getD_set_ne _ he⟩
  · exact Alike.refl d S
theorem alike_looked (S : Sh.Sf) (d c : Nat) : Alike d S (Looked S c) := ⟨by rw [looked_disks], fun e _ => by rw [looked_disks]⟩
theorem alike_ready (S : Sh.Sf) (d : Nat) (o : Int) (k : Nat) (g : Bool) (s sum : Nat) (v : Sh.Bs) (b : Sh.Bs) : Alike d S (ReadyQ (Looked S d) d o k g s sum v b) := by
  unfold ReadyQ
  refine Alike.trans (Alike.trans ?_ (alike_wr _ d _ _)) (alike_fl _ d)
  have h1 : Alike d S (flIf (Looked S d) d o k) := by
    refine (alike_looked S d d).trans ?_
    unfold flIf
    split
    · exact alike_fl _ d
    · exact Alike.refl d _
  refine h1.trans ?_
  unfold spIf
  split
  · exact (alike_wr _ d _ _).trans (alike_fl _ d)
  · exact Alike.refl d _
/-- What a sure write of a block leaves: what it told, and of all blocks together. -/
structure Sured (S : Sh.Sf) (d k : Nat) (b : Sh.Bs) (P : Cs) (m : Nat) (y : Int) (o' : Int) (S' : Sh.Sf) : Prop where
  jp : Jp S' d o' (fun c => P c ∨ (S.off = false ∧ c = upd (vals (dk S d)) k b))
  done : y = 0 → Jp S' d o' (fun c => c = upd (vals (dk S d)) k b) ∧ vals (dk S' d) = upd (vals (dk S d)) k b ∧ (dk S' d).waits = []
  now : S'.off = false → y = 0
  on : S'.off = false → S.off = false
  sectors : S'.sectors = S.sectors
  calm : Calm S d → y = 0 ∧ Calm S' d
  len : ∀ x ∈ S'.disks, x.waits.length ≤ m + 2
  alike : Alike d S S'
section
variable {B : Nat} {W w : World} {a p d : Nat} {o : Int} {S : Sh.Sf} {F : Nat → Prop} {P : Cs}
theorem fl_on {S : Sh.Sf} {d : Nat} (h1 : One S d) (h : (Fl S d).off = false) : S.off = false := by
  by_cases hw : Sh.why S d = 0
  · exact h1.why0.mp hw
  · unfold Fl at h
    rw [if_neg hw] at h
    exact h
theorem sured_no {k m : Nat} {b : Sh.Bs} {y o' : Int} {S1 : Sh.Sf} (hw : Wrote S d k b P m y o' S1) (ha : Alike d S S1) (hy : y ≠ 0) : Sured S d k b P m y o' S1 :=
  ⟨hw.jp, fun e => absurd e hy, fun e => (hw.now e).2, hw.on, hw.sectors, hw.calm, hw.len, ha⟩
theorem sured_yes {k m : Nat} {b : Sh.Bs} {o' : Int} {S1 : Sh.Sf} (hw : Wrote S d k b P m 0 o' S1) (ha : Alike d S S1) : Sured S d k b P m (Sh.why S1 d) (shut (Sh.why S1 d) o') (Fl S1 d) := by
  have h1 := hw.jp.one
  have hsec : (Fl S1 d).sectors = S.sectors := (fl_sectors S1 d).trans hw.sectors
  have hlen := fl_lens (d := d) hw.len
  by_cases hon : S1.off = false
  · have h0 := h1.why0.mpr hon
    obtain ⟨hn, _⟩ := hw.now hon
    obtain ⟨j1, j2, j3⟩ := hw.jp.flush hon (shut (Sh.why S1 d) o')
    rw [hn] at j1 j2
    exact ⟨j1.more fun c e => .inr ⟨hw.on hon, e⟩, fun _ => ⟨j1, j2, j3⟩, fun _ => h0, fun _ => hw.on hon, hsec, fun hc => ⟨h0, (hw.calm hc).2.fl⟩, hlen, ha.trans (alike_fl S1 d)⟩
  · have hne : Sh.why S1 d ≠ 0 := fun e => hon (h1.why0.mp e)
    have e : Fl S1 d = S1 := if_neg hne
    rw [e] at hsec hlen ⊢
    refine ⟨hw.jp.off_any hon _, fun e => absurd e hne, fun e => absurd e hon, fun e => absurd e hon, hsec, fun hc => absurd (hw.calm hc).2.on hon, hlen, ha⟩
theorem write_jp2 (h : Dv B W w a p d o S F) (hT : Tabs W) (hTB : max 1 2 + 1 ≤ B) (hj : Jp S d o P) (k : Nat) (hk : k < blk S.sectors) (b : Sh.Bs) {A : Option Addr} {c : Nat} {m : Nat}
    (hb : Sh.Sec b) (hA : Sh.Beside w (With F a) A b) (hL : ∀ k ∈ S.disks, k.waits.length ≤ m) (hm : m ≤ 1000000) :
    Calls Tryz.prog 33 #[.pointer (some ⟨a, 0, none⟩), .int .i64 k, .slice A 128 c] w fun e w' => ∃ y : Int, e = .returned (.int .i64 y) ∧ ∃ o' S', Wrote S d k b P m y o' S' ∧ Alike d S S' ∧ Goes B W w w' a p d o' S' F := by
  by_cases hw : Sh.why S d = 0
  · refine (write_done h hT hTB k hk hj.one.lt hw b hb hA (fun k hk => by have := hL k hk; omega)).mono ?_
    rintro e w' ⟨b', o', _, _, rfl, h0, _, hG⟩
    have hon := hj.one.why0.mp hw
    have hg := hj.good hon k hk
    rw [hg] at h0 hG ⊢
    have hv := V_sec h.on.shelf hj.one.lt (n := dataOf k) (sum_of_lt hk).1
    obtain ⟨j1, j2⟩ := hj.write hon k hk b b' hb.2 hv.2 h0
    have hse : (Wr (ReadyQ (Looked S d) d o k true (sumL d k (V S d (dataOf k))) (sumL d k b) (V S d (sumOf k)) b') d (dataOf k) b).sectors = S.sectors := by
      rw [wr_sectors]
      unfold ReadyQ
      rw [fl_sectors, wr_sectors, spIf_sectors, flIf_sectors, looked_sectors]
    refine ⟨_, rfl, o', _, ⟨j1.more (fun c e => e.imp id (fun e => ⟨hon, e⟩)), fun e => ⟨j2 e, ?_⟩, fun _ => hon, hse, fun hc => ?_, ?_⟩, ((alike_ready S d o k true _ _ _ b').trans (alike_wr _ d _ b)), hG⟩
    · have hww := j1.one.why0.mpr e
      by_cases hq : Sh.why (ReadyQ (Looked S d) d o k true (sumL d k (V S d (dataOf k))) (sumL d k b) (V S d (sumOf k)) b') d = 0
      · exact hq
      · rw [wr_why hq] at hww; exact absurd hww hq
    · obtain ⟨r1, _, _⟩ := ready_over hc o k hk b b'
      unfold Ready at r1
      rw [hg] at r1
      refine ⟨r1.calm.why, r1.calm.wr _ _⟩
    · refine wr_lens (m := m + 1) (fl_lens ?_)
      refine wr_lens ?_
      have e : ∀ s x, spIf (flIf (Looked S d) d o k) d k true s x b' = flIf (Looked S d) d o k := fun s x => by unfold spIf; rw [if_neg (fun h => by simp at h)]
      rw [e]
      have hlk : ∀ k ∈ (Looked S d).disks, k.waits.length ≤ m := by rw [looked_disks]; exact hL
      unfold flIf
      split
      · exact fl_lens hlk
      · exact hlk
  · refine (write_why h k hk hj.one.lt hw A c).mono ?_
    rintro e w' ⟨rfl, hb⟩
    have hoff : S.off ≠ false := fun e => hw (hj.one.why0.mpr e)
    refine ⟨_, rfl, o, S, ⟨hj.more (fun c e => .inl e), fun e => absurd e hoff, id, rfl, fun hc => absurd hc.on hoff, fun k hk => by have := hL k hk; omega⟩, Alike.refl d S, F, h.grown hb, moves_below hb⟩
theorem sure_jp (h : Dv B W w a p d o S F) (hT : Tabs W) (hTB : max 1 2 + 1 ≤ B) (hj : Jp S d o P) (k : Nat) (hk : k < blk S.sectors) (b : Sh.Bs) {A : Option Addr} {c : Nat} {m : Nat}
    (hb : Sh.Sec b) (hA : Sh.Beside w (With F a) A b) (hL : ∀ k ∈ S.disks, k.waits.length ≤ m) (hm : m ≤ 1000000) (g : Option Addr) :
    Calls Tryz.prog 139 #[.agg #[.pointer (some ⟨a, 0, none⟩), .pointer g], .int .i64 k, .slice A 128 c] w fun e w' => ∃ y : Int, e = .returned (.int .i64 y) ∧ ∃ o' S', Sured S d k b P m y o' S' ∧ Goes B W w w' a p d o' S' F := by
  have hbw : Below w.heap.size w (w.alloc (.cells #[.pointer (some ⟨a, 0, none⟩), .pointer g] 109)) := (Below.refl _ _).alloc (Nat.le_refl _) _
  have hl := heap_alloc_new w (.cells #[.pointer (some ⟨a, 0, none⟩), .pointer g] 109)
  have hlt := with_lt h
  have HWR := Lib.hid (write_jp2 (c := c) (h.grown hbw) hT hTB hj k hk b hb (hA.grown hbw) hL hm)
  have l0 := cell_of_row _ _ 0 _ _ _ hl
  simp only [List.getElem?_toArray, List.getElem?_cons_zero] at l0
  have HLT := Lib.hid hlt
  have HB := Lib.hid hbw
  have HL2 := Lib.hid hl
  have HM := Lib.hid hm
  clear h hb hA hL hl hbw hlt hk hj hm
  go_enter Tryz.func139, Tryz.ntmps139
  go_wp2_with fail
  refine HWR.out.mono ?_
  rintro e w1 ⟨y, rfl, o1, S1, hW, hA1, F1, D1, M1⟩
  have hrow : w1.heap[w.heap.size]? = _ := (M1.1.block w.heap.size (lt_of_block HL2.out) (fun e => Nat.lt_irrefl _ (HLT.out _ e))).trans HL2.out
  have k0 := cell_of_row _ _ 0 _ _ _ hrow
  simp only [List.getElem?_toArray, List.getElem?_cons_zero] at k0
  have M0 : Sh.Moves (With F a) w (With F1 a) w1 := (moves_below HB.out).trans M1
  by_cases h0 : y = 0
  · subst h0
    have HFL := Lib.hid (flush_dev D1 hW.jp.one.lt (fun x hx => by have := hW.len x hx; have := HM.out; omega))
    have KEEP := Lib.hid (And.intro (sured_yes hW hA1) M0)
    generalize shut (Sh.why S1 d) o1 = o2 at *
    generalize Sh.why S1 d = y2 at *
    clear hW hA1 D1 M1 M0 hrow l0 HWR
    go_wp2_with fail
    refine HFL.out.mono ?_
    rintro e w2 ⟨rfl, F2, D2, M2⟩
    go_wp2
    go_ret
    exact ⟨y2, rfl, o2, _, KEEP.out.1, F2, D2, KEEP.out.2.trans M2⟩
  · have hq : (y == 0) = false := by rw [beq_eq_false_iff_ne]; exact h0
    have KEEP := Lib.hid (And.intro (sured_no hW hA1 h0) (And.intro D1 M0))
    clear hW hA1 D1 M1 M0 hrow l0 HWR h0
    go_wp2
    go_ret
    exact ⟨y, rfl, o1, S1, KEEP.out.1, F1, KEEP.out.2.1, KEEP.out.2.2⟩
end
end Go.Proofs.YtplbgjjacomceaaGreatDoor.U
namespace Go.Proofs.YtplbgjjacomceaaGreatDoor.U
open Go.RowKit Go.Maps

section
variable {B : Nat} {W w : World} {v p t n mo mu : Nat} {s : Go.Proofs.YtplbgjjacomceaaGreatDoor.S.Sup} {base : Int} {a : Nat → Nat} {o : Nat → Int} {g : Nat → Option Addr} {S : Sh.Sf} {F : Nat → Prop}
theorem sup_cells {w : World} {q : Nat} {x : Go.Proofs.YtplbgjjacomceaaGreatDoor.S.Sup} (h : w.heap[q]? = some (.cells x.cells 65 (0, 0))) :
    w.cell? ⟨q, 0, none⟩ = some (.int .i64 x.gen) ∧ w.cell? ⟨q, 1, none⟩ = some (.int .i64 x.mem) ∧ w.cell? ⟨q, 2, none⟩ = some (.int .i64 x.disk) ∧ w.cell? ⟨q, 3, none⟩ = some (.int .i64 x.str) ∧ w.cell? ⟨q, 4, none⟩ = some (.int .i64 x.logs) ∧ w.cell? ⟨q, 5, none⟩ = some (.int .i64 x.spare) ∧ w.cell? ⟨q, 6, none⟩ = some (.int .i64 x.mark) ∧ w.cell? ⟨q, 7, none⟩ = some (.int .i64 x.cur) :=
  ⟨cell_of_row _ _ 0 _ _ _ h, cell_of_row _ _ 1 _ _ _ h, cell_of_row _ _ 2 _ _ _ h, cell_of_row _ _ 3 _ _ _ h, cell_of_row _ _ 4 _ _ _ h, cell_of_row _ _ 5 _ _ _ h, cell_of_row _ _ 6 _ _ _ h, cell_of_row _ _ 7 _ _ _ h⟩
/-- How many members an array of so many disks has. -/
def Fit (n : Nat) (x : Go.Proofs.YtplbgjjacomceaaGreatDoor.S.Sup) : Prop := ((n : Int) = x.mem ∧ x.spare = -1) ∨ (n : Int) = x.mem + 1
set_option maxRecDepth 20000 in
theorem fits_yes (h : Vo B W w v p t n mo mu s base a o g S F) (hn : S.disks.length = n) (x : Go.Proofs.YtplbgjjacomceaaGreatDoor.S.Sup) (str logs : Nat) (hx1 : x.str = (str : Int)) (hx2 : x.logs = (logs : Int)) (h1 : 1 ≤ logs) (h2 : logs ≤ 8) (h3 : 1 ≤ str) (h4 : str ≤ 1024)
    (hr : x.right = true) (hf : Fit n x) (hb : 2 + 2 * logs + str ≤ blk S.sectors) :
    Calls Tryz.prog 93 #[.pointer (some ⟨v, 0, none⟩), x.val] w fun e w' => e = .returned (.bool true) ∧ Below w.heap.size w w' := by
  have h17 : n ≤ 17 ∧ 1 ≤ n := by
    obtain ⟨D, gs, q⟩ := h.ds.on.shelf
    have := q.most
    have := q.some_
    omega
  have hnd := Lib.hid (need_ok str logs h1 h2 h3 h4)
  have hri := Lib.hid (fun w => Go.Proofs.YtplbgjjacomceaaGreatDoor.S.right_any x w)
  rw [hr] at hri
  have hbw : Below w.heap.size w (w.alloc (.cells x.cells 65)) := (Below.refl _ _).alloc (Nat.le_refl _) _
  have hq := Lib.hid (heap_alloc_new w (.cells x.cells 65))
  have H := Lib.hid h
  have HN := Lib.hid hn
  have HF := Lib.hid hf
  have HB := Lib.hid hb
  have hcs := sup_cells hq.out
  simp only [hx1, hx2] at hcs
  obtain ⟨c0, c1, c2, c3, c4, c5, c6, c7⟩ := hcs
  unfold Go.Proofs.YtplbgjjacomceaaGreatDoor.S.Sup.val at *
  have HW := Lib.hid hbw
  have hgrow : ∀ w2, Below (w.alloc (.cells x.cells 65)).heap.size (w.alloc (.cells x.cells 65)) w2 → w2.cell? ⟨w.heap.size, 1, none⟩ = some (.int .i64 x.mem) ∧ w2.cell? ⟨w.heap.size, 5, none⟩ = some (.int .i64 x.spare) ∧ w2.cell? ⟨v, 10, none⟩ = some (.slice (some ⟨t, 0, none⟩) n n) ∧ w2.cell? ⟨t, 0, none⟩ = some (.pointer (some ⟨a 0, 0, none⟩)) ∧ Hid (∀ k, Calls Tryz.prog 120 #[.pointer (some ⟨a 0, 0, none⟩)] (w2.drewN k) fun e w' => e = .returned (.int .i64 ((blk S.sectors : Nat) : Int)) ∧ ∃ n, w' = (w2.drewN k).drewN n) ∧ Below w.heap.size w w2 := by
    intro w2 hb2
    have hb3 := HW.out.trans (hb2.mono HW.out.size)
    have V2 := H.out.grown hb3
    have hrow := (hb2.block w.heap.size (lt_of_block hq.out)).trans hq.out
    obtain ⟨_, k1, _, _, _, k5, _⟩ := sup_cells hrow
    have hd := V2.vol.dev (j := 0) (by omega)
    exact ⟨k1, k5, V2.vol.c10, by simpa using hd, Lib.hid (fun k => by
      have V3 := V2.grown (w' := w2.drewN k) (drawn (Below.refl _ w2) k)
      exact count_of (V3.ds.dv (i := 0) (by omega)).dev V3.ds.on.shelf (secM_of V3.ds.on.shelf)), hb3⟩
  have HG := Lib.hid hgrow
  generalize hN : 2 + 2 * logs + str = need at *
  generalize hBK : blk S.sectors = bk at *
  have hge : decide (need ≤ bk) = true := by simp; omega
  clear hgrow hbw h hn hb hN hBK hr h1 h2 h3 h4 hq hf
  obtain ⟨x0, x1, x2, x3, x4, x5, x6, x7⟩ := x
  simp only at hx1 hx2
  subst hx1 hx2
  simp only [Go.Proofs.YtplbgjjacomceaaGreatDoor.S.Sup.cells] at *
  go_enter Tryz.func93, Tryz.ntmps93
  go_wp2_with (first
    | (go_at_call 136; refine (hnd.out _).mono ?_; rintro e w' ⟨rfl, rfl⟩)
    | (go_at_call 73; refine (hri.out _).mono ?_; rintro e w2 ⟨rfl, hb2⟩; clear c0 c1 c2 c3 c4 c5 c6 c7; obtain ⟨k1, k5, k10, kd, HC, hb3⟩ := HG.out w2 hb2))
  rcases HF.out with ⟨e1, e2⟩ | e1
  · simp only at e1 e2
    subst e2
    have hs0 : (n : Int) - x1 = 0 := by omega
    clear hri HG HW HF hnd HB e1
    go_quiet (fail)
    go_wp2_with (go_at_call 120; refine (HC.out _).mono ?_; rintro e w' ⟨rfl, m, rfl⟩)
    go_ret
    exact ⟨rfl, drawn hb3 _⟩
  · simp only at e1
    have hs0 : (n : Int) - x1 = 1 := by omega
    clear hri HG HW HF hnd HB e1
    go_quiet (fail)
    go_wp2_with (go_at_call 120; refine (HC.out _).mono ?_; rintro e w' ⟨rfl, m, rfl⟩)
    go_ret
    exact ⟨rfl, drawn hb3 _⟩
end
end Go.Proofs.YtplbgjjacomceaaGreatDoor.U
namespace Go.Proofs.YtplbgjjacomceaaGreatDoor.U
open Go.RowKit Go.Maps

/-- What stays while a disk says it: the volume, and what is to be said. -/
def SayS (v p t n mo mu : Nat) (s : Go.Proofs.YtplbgjjacomceaaGreatDoor.S.Sup) (base : Int) (a : Nat → Nat) (g : Nat → Option Addr) (q : Nat) (x : Go.Proofs.YtplbgjjacomceaaGreatDoor.S.Sup) (w : World) : Prop := VolIs w v p t n mo mu s base a g ∧ w.heap[q]? = some (.cells x.cells 65 (0, 0))
section
variable {B : Nat} {W w w' : World} {v p t n mo mu q : Nat} {s x : Go.Proofs.YtplbgjjacomceaaGreatDoor.S.Sup} {base : Int} {a : Nat → Nat} {o : Nat → Int} {g : Nat → Option Addr} {S S' : Sh.Sf} {F : Nat → Prop}
theorem goes_moves {i : Nat} {y : Int} (h : Goes B W w w' (a i) p i y S' F) : ∃ F', Sh.Moves (With F (a i)) w (With F' (a i)) w' := by
  obtain ⟨F', _, m⟩ := h
  exact ⟨F', m⟩
theorem sayS_moves {i : Nat} {y : Int} {w0 : World} (h : SayS v p t n mo mu s base a g q x w) (hq : ∀ b, With F (a i) b → b ≠ v ∧ b ≠ t ∧ b ≠ q) (hG : Goes B W w0 w' (a i) p i y S' F) (hw : w0.heap = w.heap := by rfl) : SayS v p t n mo mu s base a g q x w' := by
  obtain ⟨F', m⟩ := goes_moves hG
  have hk : ∀ b, b < w.heap.size → (b = v ∨ b = t ∨ b = q) → w'.heap[b]? = w.heap[b]? := fun b hb hx => by
    rw [m.1.block b (by rw [hw]; exact hb) fun e => by
      obtain ⟨h1, h2, h3⟩ := hq b e
      rcases hx with h | h | h
      · exact h1 h
      · exact h2 h
      · exact h3 h, hw]
  exact ⟨h.1.kept (hk v h.1.vlt (.inl rfl)) (hk t h.1.tlt (.inr (.inl rfl))), (hk q (lt_of_block h.2) (.inr (.inr rfl))).trans h.2⟩
set_option maxRecDepth 20000 in
theorem sayOn_any (h : Vo B W w v p t n mo mu s base a o g S F) (hT : Tabs W) (hTB : max 1 2 + 1 ≤ B) (hWi : Go.Proofs.YtplbgjjacomceaaGreatDoor.S.Wid W) (hWB : 0 + 1 ≤ B)
    (d : Nat) (hd : d < n) (x : Go.Proofs.YtplbgjjacomceaaGreatDoor.S.Sup) (hr : ({ x with disk := (d : Int) } : Go.Proofs.YtplbgjjacomceaaGreatDoor.S.Sup).right = true) {P : Cs} (hj : Jp S d (o d) P) (hn : S.disks.length = n) (hb : 2 ≤ blk S.sectors) {m : Nat} (hL : ∀ k ∈ S.disks, k.waits.length ≤ m) (hm : m ≤ 1000000) :
    Calls Tryz.prog 131 #[.pointer (some ⟨v, 0, none⟩), .int .i64 d, x.val] w fun e w' => ∃ y : Int, e = .returned (.int .i64 y) ∧ ∃ o' S', Sured S d (x.gen % 2).toNat (Go.Proofs.YtplbgjjacomceaaGreatDoor.S.encL ({ x with disk := (d : Int) } : Go.Proofs.YtplbgjjacomceaaGreatDoor.S.Sup).nums) P m y o' S' ∧ VGoes B W w w' v p t n mo mu s base a (put1 o d o') g S' F := by
  obtain ⟨hg1, -⟩ := Go.Proofs.YtplbgjjacomceaaGreatDoor.S.right_parts hr
  obtain ⟨x0, x1, x2, x3, x4, x5, x6, x7⟩ := x
  simp only at hr hg1 ⊢
  obtain ⟨K, hK, hK2⟩ : ∃ K : Nat, x0 % 2 = (K : Int) ∧ K < 2 := ⟨(x0 % 2).toNat, by omega, by omega⟩
  have hKn : (x0 % 2).toNat = K := by omega
  rw [hKn]
  have HSL := Lib.hid (fun w => Go.Proofs.YtplbgjjacomceaaGreatDoor.S.slot_any x0 w (by omega) (by omega))
  rw [hK] at HSL
  have hlt := with_lt (h.ds.dv hd)
  have hvl := h.vol.vlt
  have htl := h.vol.tlt
  have hr1 : (w.alloc (.cells #[.int .i64 x0, .int .i64 x1, .int .i64 (d : Int), .int .i64 x3, .int .i64 x4, .int .i64 x5, .int .i64 x6, .int .i64 x7] 65)).heap[w.heap.size]? = some (.cells (⟨x0, x1, (d : Int), x3, x4, x5, x6, x7⟩ : Go.Proofs.YtplbgjjacomceaaGreatDoor.S.Sup).cells 65 (0, 0)) := heap_alloc_new w _
  have hb1 : Below w.heap.size w (w.alloc (.cells #[.int .i64 x0, .int .i64 x1, .int .i64 (d : Int), .int .i64 x3, .int .i64 x4, .int .i64 x5, .int .i64 x6, .int .i64 x7] 65)) := (Below.refl _ w).alloc (Nat.le_refl _) _
  have HR1 := Lib.hid hr1
  have HB1 := Lib.hid hb1
  have HQ : Hid (∀ b, With F (a d) b → b ≠ v ∧ b ≠ t ∧ b ≠ w.heap.size) := Lib.hid fun b e => by
    have h1 := hlt b e
    have h2 := h.apart b (e.imp id fun e => ⟨d, hd, e⟩)
    exact ⟨h2.1, h2.2.1, by omega⟩
  obtain ⟨c0, c1, c2, c3, c4, c5, c6, c7⟩ := sup_cells hr1
  simp only at c0 c1 c2 c3 c4 c5 c6 c7
  have HV := Lib.hid h
  have HR := Lib.hid hr
  have HJ := Lib.hid hj
  have HLT := Lib.hid hlt
  have j0 := fun (W' : World) (h : SayS v p t n mo mu s base a g w.heap.size ⟨x0, x1, (d : Int), x3, x4, x5, x6, x7⟩ W') => h.1.c10
  have j1 := fun (W' : World) (h : SayS v p t n mo mu s base a g w.heap.size ⟨x0, x1, (d : Int), x3, x4, x5, x6, x7⟩ W') => h.1.dev hd
  have j2 := fun (W' : World) (h : SayS v p t n mo mu s base a g w.heap.size ⟨x0, x1, (d : Int), x3, x4, x5, x6, x7⟩ W') => h.1.log hd
  have j3 := fun (W' : World) (h : SayS v p t n mo mu s base a g w.heap.size ⟨x0, x1, (d : Int), x3, x4, x5, x6, x7⟩ W') => show W'.cell? ⟨w.heap.size, 0, none⟩ = some (.int .i64 x0) from (sup_cells h.2).1
  have h17 : n ≤ 17 := by
    obtain ⟨D, gs, q⟩ := h.ds.on.shelf
    have := q.most
    omega
  clear h hr hj hr1 hb1 hlt
  unfold Go.Proofs.YtplbgjjacomceaaGreatDoor.S.Sup.val
  simp only [Go.Proofs.YtplbgjjacomceaaGreatDoor.S.Sup.cells]
  go_enter Tryz.func131, Tryz.ntmps131
  go_wp2_with fail
  generalize (w.alloc (.cells #[.int .i64 x0, .int .i64 x1, .int .i64 (d : Int), .int .i64 x3, .int .i64 x4, .int .i64 x5, .int .i64 x6, .int .i64 x7] 65)) = w1 at *
  have V1 := HV.out.grown HB1.out
  refine (Go.Proofs.YtplbgjjacomceaaGreatDoor.S.encode_ok ⟨x0, x1, (d : Int), x3, x4, x5, x6, x7⟩ w1 HR.out (hT.below hTB V1.ds.on.bel) (hWi.below hWB V1.ds.on.bel)).mono ?_
  rintro e w2 ⟨g2, rfl, ho, hb2⟩
  have b2 : Below w.heap.size w w2.drew := (HB1.out.trans (hb2.mono HB1.out.size)).drew
  have V2 := HV.out.grown b2
  have hS2 : SayS v p t n mo mu s base a g w.heap.size ⟨x0, x1, (d : Int), x3, x4, x5, x6, x7⟩ w2.drew := ⟨V2.vol, (hb2.block w.heap.size (lt_of_block HR1.out)).trans HR1.out⟩
  have hbs : Sh.Beside w2.drew (With F (a d)) (some ⟨g2, 0, none⟩) (Go.Proofs.YtplbgjjacomceaaGreatDoor.S.encL (⟨x0, x1, (d : Int), x3, x4, x5, x6, x7⟩ : Go.Proofs.YtplbgjjacomceaaGreatDoor.S.Sup).nums) := ⟨Sh.Reads.of_own (w := w2) ho, fun z hz e => by
    injection hz with hz
    subst hz
    have : g2 < w.heap.size := HLT.out g2 e
    have : w1.heap.size ≤ g2 := (ho.lt g2 rfl).1
    have := HB1.out.size
    omega⟩
  have HSU := Lib.hid (sure_jp (c := 128) (V2.ds.dv hd) hT hTB HJ.out K (by omega) _ ⟨Go.Proofs.YtplbgjjacomceaaGreatDoor.S.encL_length _, Go.Proofs.YtplbgjjacomceaaGreatDoor.S.encL_small _⟩ hbs hL hm (g d))
  have KEEP := Lib.hid (And.intro V2 b2)
  have hS3 := Lib.hid hS2
  clear V1 V2 hbs hS2 ho hb2 b2 c0 c1 c2 c3 c4 c5 c6 c7
  generalize hle : Go.Proofs.YtplbgjjacomceaaGreatDoor.S.encL (⟨x0, x1, (d : Int), x3, x4, x5, x6, x7⟩ : Go.Proofs.YtplbgjjacomceaaGreatDoor.S.Sup).nums = l at *
  have HLE := Lib.hid hle
  clear hle
  go_wp2_with fail
  refine wp_region_held_drew (S := SayS v p t n mo mu s base a g w.heap.size ⟨x0, x1, (d : Int), x3, x4, x5, x6, x7⟩) (by kernel_rfl) hS3.out (fun hHeld => ?_)
  refine wpAnyH_take (i := 0) (oi := ⟨some 19, _, _, _, _, _⟩) (v := ?_) rfl (by kernel_rfl) (by kernel_rfl) (by kernel_rfl) (fun _ _ _ h => h) (Or.inl ⟨by rfl, ?_⟩) (by assumption) ?_
  rotate_left
  · (intro w hSw; (try dsimp only at hSw); go_simp; first | done | with_reducible rfl)
  try simp only [Act.put, List.setIfInBounds_toArray, List.set_cons_zero, List.set_cons_succ]
  refine wpAnyH_take (i := 1) (oi := ⟨some 20, _, _, _, _, _⟩) (v := ?_) rfl (by kernel_rfl) (by kernel_rfl) (by kernel_rfl) (fun _ _ _ h => h) (Or.inl ⟨by rfl, ?_⟩) (by assumption) ?_
  rotate_left
  · (intro w hSw; (try dsimp only at hSw); go_simp; first | done | with_reducible rfl)
  try simp only [Act.put, List.setIfInBounds_toArray, List.set_cons_zero, List.set_cons_succ]
  refine wpAnyH_take (i := 2) (oi := ⟨some 21, _, _, _, _, _⟩) (v := ?_) rfl (by kernel_rfl) (by kernel_rfl) (by kernel_rfl) (fun _ _ _ h => h) (Or.inl ⟨by rfl, ?_⟩) (by assumption) ?_
  rotate_left
  · (intro w hSw; (try dsimp only at hSw); go_simp; first | done | with_reducible rfl)
  try simp only [Act.put, List.setIfInBounds_toArray, List.set_cons_zero, List.set_cons_succ]
  refine wpAnyH_take (i := 3) (oi := ⟨some 22, _, _, _, _, _⟩) (v := ?_) rfl (by kernel_rfl) (by kernel_rfl) (by kernel_rfl) (fun _ _ _ h => h) (Or.inl ⟨by rfl, ?_⟩) (by assumption) ?_
  rotate_left
  · (intro w hSw; (try dsimp only at hSw); go_simp; first | done | with_reducible rfl)
  try simp only [Act.put, List.setIfInBounds_toArray, List.set_cons_zero, List.set_cons_succ]
  refine wpAnyH_take (i := 4) (oi := ⟨some 23, _, _, _, _, _⟩) (v := ?_) rfl (by kernel_rfl) (by kernel_rfl) (by kernel_rfl) (fun _ _ _ h => h) (Or.inl ⟨by rfl, ?_⟩) (by assumption) ?_
  rotate_left
  · (intro w hSw; (try dsimp only at hSw); go_simp; first | done | with_reducible rfl)
  try simp only [Act.put, List.setIfInBounds_toArray, List.set_cons_zero, List.set_cons_succ]
  refine wpAnyH_take (i := 5) (oi := ⟨some 24, _, _, _, _, _⟩) (v := ?_) rfl (by kernel_rfl) (by kernel_rfl) (by kernel_rfl) (fun _ _ _ h => h) (Or.inl ⟨by rfl, ?_⟩) (by assumption) ?_
  rotate_left
  · (intro w hSw; (try dsimp only at hSw); go_simp; first | done | with_reducible rfl)
  try simp only [Act.put, List.setIfInBounds_toArray, List.set_cons_zero, List.set_cons_succ]
  refine wpAnyH_take (i := 6) (oi := ⟨some 25, _, _, _, _, _⟩) (v := ?_) rfl (by kernel_rfl) (by kernel_rfl) (by kernel_rfl) (fun _ _ _ h => h) (Or.inl ⟨by rfl, ?_⟩) (by assumption) ?_
  rotate_left
  · (intro w hSw; (try dsimp only at hSw); go_simp; first | done | with_reducible rfl)
  try simp only [Act.put, List.setIfInBounds_toArray, List.set_cons_zero, List.set_cons_succ]
  refine wpAnyH_take (i := 7) (oi := ⟨some 26, _, _, _, _, _⟩) (v := ?_) rfl (by kernel_rfl) (by kernel_rfl) (by kernel_rfl) (fun _ _ _ h => h) (Or.inl ⟨by rfl, ?_⟩) (by assumption) ?_
  rotate_left
  · (intro w hSw; (try dsimp only at hSw); go_simp; first | done | with_reducible rfl)
  try simp only [Act.put, List.setIfInBounds_toArray, List.set_cons_zero, List.set_cons_succ]
  refine wpAnyH_take (i := 8) (oi := ⟨some 27, _, _, _, _, _⟩) (v := ?_) rfl (by kernel_rfl) (by kernel_rfl) (by kernel_rfl) (fun _ _ _ h => h) (Or.inl ⟨by rfl, ?_⟩) (by assumption) ?_
  rotate_left
  · (intro w hSw; (try dsimp only at hSw); go_simp; first | done | with_reducible rfl)
  try simp only [Act.put, List.setIfInBounds_toArray, List.set_cons_zero, List.set_cons_succ]
  refine wpAnyH_take (i := 10) (oi := ⟨some 29, _, _, _, _, _⟩) (v := ?_) rfl (by kernel_rfl) (by kernel_rfl) (by kernel_rfl) (fun _ _ _ h => h) (Or.inl ⟨by rfl, ?_⟩) (by assumption) ?_
  rotate_left
  · (intro w hSw; (try dsimp only at hSw); go_simp; first | done | with_reducible rfl)
  try simp only [Act.put, List.setIfInBounds_toArray, List.set_cons_zero, List.set_cons_succ]
  refine wpAnyH_ready (rs := [9]) (by kernel_rfl) (by simp) ?_
  refine AllReadyH.cons (o := ⟨some 28, _, _, _, _, _⟩) rfl (fun K hK => ?_) AllReadyH.nil
  go_simp
  refine (HSL.out _).mono ?_
  rintro e w' ⟨rfl, rfl⟩
  refine hK.out _ _ (hHeld) (fun hHeld => ?_)
  clear hK K
  try simp only [Act.put, List.setIfInBounds_toArray, List.set_cons_zero, List.set_cons_succ]
  refine wpAnyH_ready (rs := [11]) (by kernel_rfl) (by simp) ?_
  refine AllReadyH.cons (o := ⟨some 30, _, _, _, _, _⟩) rfl (fun K hK => ?_) AllReadyH.nil
  go_simp
  refine (HSU.out).mono ?_
  rintro e w4 ⟨y, rfl, o4, S4, hSu, hG⟩
  refine hK.out _ _ (sayS_moves hHeld HQ.out hG) (fun hHeld => ?_)
  clear hK K
  try simp only [Act.put, List.setIfInBounds_toArray, List.set_cons_zero, List.set_cons_succ]
  refine wpAnyH_take (i := 12) (oi := ⟨some 6, _, _, _, _, _⟩) (v := ?_) rfl (by kernel_rfl) (by kernel_rfl) (by kernel_rfl) (fun _ _ _ h => h) (Or.inl ⟨by rfl, ?_⟩) (by assumption) ?_
  rotate_left
  · (intro w hSw; (try dsimp only at hSw); go_simp; first | done | with_reducible rfl)
  try simp only [Act.put, List.setIfInBounds_toArray, List.set_cons_zero, List.set_cons_succ]
  refine wpAnyH_done (by kernel_rfl) ?_ _
  go_wp2
  go_ret
  exact ⟨y, rfl, o4, S4, by rw [HLE.out]; exact hSu, VGoes.trans (F' := F) ⟨⟨KEEP.out.2.os, KEEP.out.2.tape, KEEP.out.2.output, KEEP.out.2.size, fun k hk _ => KEEP.out.2.block k hk⟩, fun _ hb => .inl hb⟩ (KEEP.out.1.goes (KEEP.out.1.ds.goes hd hG))⟩
end
end Go.Proofs.YtplbgjjacomceaaGreatDoor.U
namespace Go.Proofs.YtplbgjjacomceaaGreatDoor.U
open Go.RowKit Go.Maps

/-- What each of so many disks may have, all blocks together; none of them is dead. -/
def JpAll (S : Sh.Sf) (n : Nat) (o : Nat → Int) (Ps : Nat → Cs) : Prop := ∀ d, d < n → Jp S d (o d) (Ps d)
theorem Jp.alike {S T : Sh.Sf} {d i : Nat} {o : Int} {P : Cs} (h : Jp S d o P) (ha : Alike i S T) (hs : T.sectors = S.sectors) (hon : T.off = false → S.off = false) (hd : d ≠ i) : Jp T d o P := by
  have e : dk T d = dk S d := ha.2 d hd
  obtain ⟨h1, h2, h3⟩ := h
  obtain ⟨k1, k2, k3⟩ := h1
  refine ⟨⟨by rw [ha.1]; exact k1, by rw [e]; exact k2, by rw [e, hs]; exact k3⟩, ?_, fun x => ?_⟩
  · rw [hs, e]; exact h2
  · rw [hs, e]; exact h3 (hon x)
theorem JpAll.one {S T : Sh.Sf} {n i : Nat} {o : Nat → Int} {o' : Int} {Ps : Nat → Cs} {P : Cs} (h : JpAll S n o Ps) (ha : Alike i S T) (hs : T.sectors = S.sectors) (hon : T.off = false → S.off = false) (hj : Jp T i o' P) : JpAll T n (put1 o i o') (put1 Ps i P) := by
  intro d hd
  unfold put1
  by_cases e : d = i
  · subst e
    rw [if_pos rfl, if_pos rfl]
    exact hj
  · rw [if_neg e, if_neg e]
    exact (h d hd).alike ha hs hon e
theorem JpAll.more {S : Sh.Sf} {n : Nat} {o : Nat → Int} {Ps Qs : Nat → Cs} (h : JpAll S n o Ps) (hm : ∀ d, d < n → ∀ c, Ps d c → Qs d c) : JpAll S n o Qs := fun d hd => (h d hd).more (hm d hd)
/-- What disk d's blocks are when it has said what the array is. -/
def saidOn (S : Sh.Sf) (x : Go.Proofs.YtplbgjjacomceaaGreatDoor.S.Sup) (d : Nat) : Nat → Sh.Bs := upd (vals (dk S d)) (x.gen % 2).toNat (Go.Proofs.YtplbgjjacomceaaGreatDoor.S.encL ({ x with disk := (d : Int) } : Go.Proofs.YtplbgjjacomceaaGreatDoor.S.Sup).nums)
/-- So many disks have said it. -/
structure Says (S : Sh.Sf) (n : Nat) (o : Nat → Int) (Ps : Nat → Cs) (x : Go.Proofs.YtplbgjjacomceaaGreatDoor.S.Sup) (m j : Nat) (T : Sh.Sf) (o' : Nat → Int) : Prop where
  old : ∀ d, j ≤ d → d < n → Jp T d (o' d) (Ps d) ∧ dk T d = dk S d
  done : ∀ d, d < j → Jp T d (o' d) (fun c => c = saidOn S x d) ∧ vals (dk T d) = saidOn S x d ∧ (dk T d).waits = []
  len : T.disks.length = S.disks.length
  sectors : T.sectors = S.sectors
  on : T.off = false → S.off = false
  waits : ∀ y ∈ T.disks, y.waits.length ≤ m + 2 * j
theorem says_none {S : Sh.Sf} {n m : Nat} {o : Nat → Int} {Ps : Nat → Cs} {x : Go.Proofs.YtplbgjjacomceaaGreatDoor.S.Sup} (h : JpAll S n o Ps) (hL : ∀ y ∈ S.disks, y.waits.length ≤ m) : Says S n o Ps x m 0 S o :=
  ⟨fun d _ hd => ⟨h d hd, rfl⟩, fun d hd => absurd hd (by omega), rfl, rfl, id, fun y hy => by have := hL y hy; omega⟩
theorem Says.next {S T T' : Sh.Sf} {n m j : Nat} {o o1 : Nat → Int} {o' : Int} {Ps : Nat → Cs} {x : Go.Proofs.YtplbgjjacomceaaGreatDoor.S.Sup} (h : Says S n o Ps x m j T o1) (hs : Sured T j (x.gen % 2).toNat (Go.Proofs.YtplbgjjacomceaaGreatDoor.S.encL ({ x with disk := (j : Int) } : Go.Proofs.YtplbgjjacomceaaGreatDoor.S.Sup).nums) (Ps j) (m + 2 * j) 0 o' T') (hj : j < n) : Says S n o Ps x m (j + 1) T' (put1 o1 j o') := by
  obtain ⟨a1, a2⟩ := hs.alike
  refine ⟨fun d hd hn => ?_, fun d hd => ?_, a1.trans h.len, hs.sectors.trans h.sectors, fun e => h.on (hs.on e), fun y hy => by have := hs.len y hy; omega⟩
  · obtain ⟨k1, k2⟩ := h.old d (by omega) hn
    unfold put1
    rw [if_neg (by omega)]
    exact ⟨k1.alike hs.alike hs.sectors hs.on (by omega), (a2 d (by omega)).trans k2⟩
  · unfold put1
    by_cases e : d = j
    · subst e
      rw [if_pos rfl]
      obtain ⟨d1, d2, d3⟩ := hs.done rfl
      have hv : upd (vals (dk T d)) (x.gen % 2).toNat (Go.Proofs.YtplbgjjacomceaaGreatDoor.S.encL ({ x with disk := (d : Int) } : Go.Proofs.YtplbgjjacomceaaGreatDoor.S.Sup).nums) = saidOn S x d := by
        unfold saidOn
        rw [(h.old d (Nat.le_refl _) hj).2]
      rw [hv] at d1 d2
      exact ⟨d1, d2, d3⟩
    · rw [if_neg e]
      obtain ⟨k1, k2, k3⟩ := h.done d (by omega)
      have e2 : dk T' d = dk T d := a2 d e
      exact ⟨k1.alike hs.alike hs.sectors hs.on e, by rw [e2]; exact k2, by rw [e2]; exact k3⟩
end Go.Proofs.YtplbgjjacomceaaGreatDoor.U
namespace Go.Proofs.YtplbgjjacomceaaGreatDoor.U
open Go.RowKit Go.Maps

theorem Calm.alike {S T : Sh.Sf} {d i : Nat} (h : Calm S d) (ha : Alike i S T) (hs : T.sectors = S.sectors) (hi : Calm T i) : Calm T d := by
  by_cases e : d = i
  · subst e; exact hi
  · obtain ⟨k1, _, _, k4, k5⟩ := h
    obtain ⟨_, i2, i3, _, _⟩ := hi
    have e2 := ha.2 d e
    exact ⟨by rw [ha.1]; exact k1, i2, i3, by rw [e2]; exact k4, by rw [e2, hs]; exact k5⟩
section
variable {B : Nat} {W w : World} {v p t n mo mu : Nat} {s : Go.Proofs.YtplbgjjacomceaaGreatDoor.S.Sup} {base : Int} {a : Nat → Nat} {o : Nat → Int} {g : Nat → Option Addr} {S : Sh.Sf} {F : Nat → Prop}
/-- The loop of say. -/
def SayRel (B : Nat) (W w wr : World) (v p t n mo mu : Nat) (s : Go.Proofs.YtplbgjjacomceaaGreatDoor.S.Sup) (base : Int) (a : Nat → Nat) (o : Nat → Int) (g : Nat → Option Addr) (S : Sh.Sf) (F : Nat → Prop) (Ps : Nat → Cs) (x : Go.Proofs.YtplbgjjacomceaaGreatDoor.S.Sup) (m j : Nat) : Prop :=
  ∃ T o', Says S n o Ps x m j T o' ∧ Calms T n ∧ VGoes B W w wr v p t n mo mu s base a o' g T F
theorem say_next {w wr w2 : World} {F1 : Nat → Prop} {T T' : Sh.Sf} {Ps : Nat → Cs} {x : Go.Proofs.YtplbgjjacomceaaGreatDoor.S.Sup} {m j : Nat} {y o' : Int} {o1 : Nat → Int} (hS : Says S n o Ps x m j T o1) (hC : Calms T n) (hj : j < n) (M1 : Sh.Moves (AllB F a n) w (AllB F1 a n) wr)
    (hs : Sured T j (x.gen % 2).toNat (Go.Proofs.YtplbgjjacomceaaGreatDoor.S.encL ({ x with disk := (j : Int) } : Go.Proofs.YtplbgjjacomceaaGreatDoor.S.Sup).nums) (Ps j) (m + 2 * j) y o' T') (hG : VGoes B W wr w2 v p t n mo mu s base a (put1 o1 j o') g T' F1) : y = 0 ∧ SayRel B W w w2 v p t n mo mu s base a o g S F Ps x m (j + 1) := by
  obtain ⟨h0, hc⟩ := hs.calm (hC j hj)
  subst h0
  exact ⟨rfl, T', _, hS.next hs hj, fun d hd => (hC d hd).alike hs.alike hs.sectors hc, VGoes.trans M1 hG⟩
set_option maxRecDepth 20000 in
theorem say_calm (h : Vo B W w v p t n mo mu s base a o g S F) (hT : Tabs W) (hTB : max 1 2 + 1 ≤ B) (hWi : Go.Proofs.YtplbgjjacomceaaGreatDoor.S.Wid W) (hWB : 0 + 1 ≤ B)
    (hn : S.disks.length = n) (x : Go.Proofs.YtplbgjjacomceaaGreatDoor.S.Sup) (hr : ∀ d, d < n → ({ x with disk := (d : Int) } : Go.Proofs.YtplbgjjacomceaaGreatDoor.S.Sup).right = true) {Ps : Nat → Cs} (hj : JpAll S n o Ps) (hc : Calms S n) (hb : 2 ≤ blk S.sectors) {m : Nat} (hL : ∀ k ∈ S.disks, k.waits.length ≤ m) (hm : m ≤ 900000) :
    Calls Tryz.prog 97 #[.pointer (some ⟨v, 0, none⟩), x.val] w fun e w' => e = .returned (.int .i64 0) ∧ SayRel B W w w' v p t n mo mu s base a o g S F Ps x m n := by
  have h17 : n ≤ 17 := by
    obtain ⟨D, gs, q⟩ := h.ds.on.shelf
    have := q.most
    omega
  have hbw : Below w.heap.size w (w.alloc (.cells x.cells 65)) := (Below.refl _ _).alloc (Nat.le_refl _) _
  have HQ := Lib.hid (heap_alloc_new w (.cells x.cells 65))
  have HLT := Lib.hid h.ds.lt
  have HM0 : Hid (Sh.Moves (AllB F a n) w (AllB F a n) (w.alloc (.cells x.cells 65))) := Lib.hid ⟨⟨hbw.os, hbw.tape, hbw.output, hbw.size, fun k hk _ => hbw.block k hk⟩, fun _ hb => .inl hb⟩
  have V0 := h.grown hbw
  have c10 := V0.vol.c10
  have hrel0 : Hid (SayRel B W (w.alloc (.cells x.cells 65)) (w.alloc (.cells x.cells 65)) v p t n mo mu s base a o g S F Ps x m 0) := Lib.hid ⟨S, o, says_none hj hL, hc, VGoes.here V0 (Below.refl _ _)⟩
  have hbd : Hid (∀ w, Calls Tryz.prog 105 #[.int .i64 0] w fun e w' => e = .returned (.int .i64 0) ∧ w = w') := Lib.hid (butDead_any 0)
  have HS : Hid (∀ wr j, j < n → SayRel B W (w.alloc (.cells x.cells 65)) wr v p t n mo mu s base a o g S F Ps x m j →
      (wr.heap[w.heap.size]? = some (.cells x.cells 65 (0, 0))) ∧ Hid (Calls Tryz.prog 131 #[.pointer (some ⟨v, 0, none⟩), .int .i64 j, x.val] wr fun e w' => e = .returned (.int .i64 0) ∧ SayRel B W (w.alloc (.cells x.cells 65)) w' v p t n mo mu s base a o g S F Ps x m (j + 1))) := Lib.hid fun wr j hlt hrel => by
    obtain ⟨T, o1, hS, hC, F1, V1, M1⟩ := hrel
    refine ⟨(M1.1.block w.heap.size (lt_of_block HQ.out) fun e => Nat.lt_irrefl _ (HLT.out _ e)).trans HQ.out, Lib.hid ?_⟩
    refine (sayOn_any V1 hT hTB hWi hWB j hlt x (hr j hlt) (hS.old j (Nat.le_refl _) hlt).1 (by rw [hS.len]; exact hn) (by rw [hS.sectors]; exact hb) hS.waits (by omega)).mono ?_
    rintro e w2 ⟨y, rfl, o', T', hs, hG⟩
    obtain ⟨rfl, hR⟩ := say_next hS hC hlt M1 hs hG
    exact ⟨rfl, hR⟩
  have hE : Hid (∀ wr, SayRel B W (w.alloc (.cells x.cells 65)) wr v p t n mo mu s base a o g S F Ps x m n → SayRel B W w wr v p t n mo mu s base a o g S F Ps x m n) := Lib.hid fun wr hrel => by
    obtain ⟨T, o1, hS, hC, hG⟩ := hrel
    exact ⟨T, o1, hS, hC, VGoes.trans HM0.out hG⟩
  clear h hbw V0 hj hc hL hr HM0 HQ HLT hn hb
  unfold Go.Proofs.YtplbgjjacomceaaGreatDoor.S.Sup.val at *
  obtain ⟨x0, x1, x2, x3, x4, x5, x6, x7⟩ := x
  simp only [Go.Proofs.YtplbgjjacomceaaGreatDoor.S.Sup.cells] at *
  go_enter Tryz.func97, Tryz.ntmps97
  go_wp2
  clear c10
  generalize w.alloc _ = w0 at *
  go_loopw [12] (fun i wr => ∃ j : Nat, j ≤ n ∧ i = .int .i64 j ∧ Hid (SayRel B W w0 wr v p t n mo mu s base a o g S F Ps ⟨x0, x1, x2, x3, x4, x5, x6, x7⟩ m j)) (fun i _ => n - (intOf i).toNat)
  case atStart => exact ⟨0, Nat.zero_le _, rfl, hrel0⟩
  case round =>
    obtain ⟨j, hj, rfl, hrel⟩ := hrel
    by_cases hlt : j < n
    · obtain ⟨hrow, HC⟩ := HS.out wr j hlt hrel.out
      obtain ⟨c0, c1, c2, c3, c4, c5, c6, c7⟩ := sup_cells (x := ⟨x0, x1, x2, x3, x4, x5, x6, x7⟩) hrow
      simp only at c0 c1 c2 c3 c4 c5 c6 c7
      clear hrow hrel
      go_wp2_with fail
      refine HC.out.mono ?_
      rintro e w2 ⟨rfl, hR⟩
      have HR := Lib.hid hR
      clear hR c0 c1 c2 c3 c4 c5 c6 c7 HC
      go_wp2_with (go_at_call 105; refine (hbd.out _).mono ?_; rintro e w' ⟨rfl, rfl⟩)
      go_roundw
      case rel => exact ⟨j + 1, by omega, by go_num, HR⟩
      case measure => simp [intOf]; omega
    · obtain rfl : j = n := by omega
      have HR := Lib.hid (hE.out wr hrel.out)
      clear hrel
      go_wp2
      go_ret
      exact ⟨rfl, HR.out⟩
end
end Go.Proofs.YtplbgjjacomceaaGreatDoor.U
namespace Go.Proofs.YtplbgjjacomceaaGreatDoor.U
open Go.RowKit Go.Maps

section
variable {B : Nat} {W w w4 : World} {v p t n mo mu L j b : Nat} {s : Go.Proofs.YtplbgjjacomceaaGreatDoor.S.Sup} {base : Int} {a gn : Nat → Nat} {o : Nat → Int} {g : Nat → Option Addr} {S : Sh.Sf} {F : Nat → Prop}
theorem Devs.set (h : Devs B W w p n a o S F) {x i : Nat} (u : Value) (hx : ∀ b, AllB F a n b → b ≠ x) (hB : B ≤ x) : Devs B W (w.setCell ⟨x, i, none⟩ u) p n a o S F := by
  have hO : Sh.Only (fun b => b = x) w (w.setCell ⟨x, i, none⟩ u) := Sh.Only.setCell (F := fun b => b = x) (p := ⟨x, i, none⟩) (Sh.Only.refl _ w) (.inl rfl) _
  exact ⟨⟨h.on.shelf.only hO (fun b hb e => hx b (.inl hb) e), h.on.low, h.on.bel.setCell (p := ⟨x, i, none⟩) hB _, by simpa using h.on.size⟩, fun k hk => (h.dev k hk).same (Sh.heap_set_other _ _ _ (hx _ (.inr ⟨k, hk, rfl⟩))), h.apart, h.inj, h.low⟩
theorem dvG_put (a : Nat → Nat) (g : Nat → Option Addr) (n j : Nat) (A : Option Addr) : (Sh.rowOf (dvG a g) n 2).set (j * 2 + 1) (.pointer A) = Sh.rowOf (dvG a (put1 g j A)) n 2 := by
  rw [Sh.rowOf_set _ (by decide)]
  refine Sh.rowOf_congr (by decide) fun i c _ hc => ?_
  unfold dvG put1
  by_cases hi : i = j
  · subst hi
    have h01 : c = 0 ∨ c = 1 := by omega
    rcases h01 with e | e <;> subst e <;> simp
  · simp [hi]
/-- A log's pointer is laid into the table. -/
theorem Vo.putLog (h : Vo B W w v p t n mo mu s base a o g S F) (hvt : v ≠ t) (j : Nat) (A : Option Addr) : Vo B W (w.setCell ⟨t, j * 2 + 1, none⟩ (.pointer A)) v p t n mo mu s base a o (put1 g j A) S F := by
  have hr1 := (h.vol.row.stored (j * 2 + 1) (.pointer A)).1
  rw [dvG_put] at hr1
  exact ⟨h.ds.set _ (fun b hb => (h.apart b hb).2.1) h.low.2.1, ⟨(Sh.heap_set_other _ _ _ hvt).trans h.vol.root, hr1⟩, h.apart, h.low, by simpa using h.lt⟩
/-- So many logs are opened. -/
structure LogsTo (B : Nat) (w : World) (v t mo mu n : Nat) (a gn : Nat → Nat) (L : Nat) (F : Nat → Prop) (j : Nat) : Prop where
  log : ∀ i, i < j → LogIs w (gn i) (a i) L
  apart : ∀ i, i < j → ¬ AllB F a n (gn i) ∧ gn i ≠ v ∧ gn i ≠ t ∧ gn i ≠ mo ∧ gn i ≠ mu
  low : ∀ i, i < j → B ≤ gn i
theorem LogsTo.next (k : LogsTo B w v t mo mu n a gn L F j) (h : Vo B W w v p t n mo mu s base a o g S F) (hb : Below w.heap.size w w4) (hl : LogIs w4 b (a j) L) (hbl : w.heap.size ≤ b) : LogsTo B (w4.setCell ⟨t, j * 2 + 1, none⟩ (.pointer (some ⟨b, 0, none⟩))) v t mo mu n a (atI gn j b) L F (j + 1) := by
  have hvl := h.vol.vlt
  have htl := h.vol.tlt
  obtain ⟨l1, l2⟩ := h.lt
  have hB := h.ds.on.size
  refine ⟨fun i hi => ?_, fun i hi => ?_, fun i hi => ?_⟩
  · unfold atI
    by_cases e : i = j
    · subst e
      rw [if_pos rfl]
      exact hl.same (Sh.heap_set_other _ _ _ (show b ≠ t by omega))
    · rw [if_neg e]
      have hi2 := k.log i (by omega)
      exact hi2.same ((Sh.heap_set_other _ _ _ (k.apart i (by omega)).2.2.1).trans (hb.block _ hi2.lt))
  · unfold atI
    by_cases e : i = j
    · rw [if_pos e]
      exact ⟨fun e => by have := h.ds.lt _ e; omega, by omega, by omega, by omega, by omega⟩
    · rw [if_neg e]; exact k.apart i (by omega)
  · unfold atI
    by_cases e : i = j
    · rw [if_pos e]; omega
    · rw [if_neg e]; exact k.low i (by omega)
end
end Go.Proofs.YtplbgjjacomceaaGreatDoor.U
