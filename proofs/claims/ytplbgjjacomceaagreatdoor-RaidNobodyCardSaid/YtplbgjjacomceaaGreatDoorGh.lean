/-
  raid: writeBoth, writeParity.
  Conditions: each theorem's own.
-/
import Derived.Test.YtplbgjjacomceaaGreatDoorGg
namespace Go.Proofs.YtplbgjjacomceaaGreatDoor.U
open Go.RowKit Go.Maps

theorem size_nil_vol (w : World) : Calls Tryz.prog 38 #[.pointer none] w fun e w' => e = .returned (.int .i64 0) ∧ w = w' := by
  go_enter Tryz.func38, Tryz.ntmps38
  go_wp2
  go_ret
  exact ⟨rfl, rfl⟩
theorem has_nil_vol (n : Int) (w : World) : Calls Tryz.prog 55 #[.pointer none, .int .i64 n] w fun e w' => e = .returned (.bool false) ∧ w = w' := by
  have hs := Lib.hid size_nil_vol
  by_cases h : 0 ≤ n
  · have q1 : decide (n < 0) = false := by simpa using h
    go_enter Tryz.func55, Tryz.ntmps55
    go_wp2_with (go_at_call 38; refine (hs.out _).mono ?_; rintro e w' ⟨rfl, rfl⟩)
    go_ret
    exact ⟨rfl, rfl⟩
  · have q1 : n < 0 := by omega
    clear h
    go_enter Tryz.func55, Tryz.ntmps55
    go_wp2
    go_ret
    exact ⟨rfl, rfl⟩
theorem refusal_nil_vol (b : Bool) (w : World) : Calls Tryz.prog 54 #[.pointer none, .bool b] w fun e w' => e = .returned (.int .i64 2) ∧ w = w' := by
  go_enter Tryz.func54, Tryz.ntmps54
  go_wp2
  go_ret
  exact ⟨rfl, rfl⟩
theorem drew_n (w : World) (k : Nat) : Below w.heap.size w (w.drewN k) := drawn (Below.refl _ w) k
section
variable {J : Vk} {w w' : World} {s : Go.Proofs.YtplbgjjacomceaaGreatDoor.S.Sup} {o : Nat → Int} {S : Sh.Sf} {F : Nat → Prop} {D U : Set0} {M St : Nat}
theorem vsize (h : Vr J w s o S F D U) (hf : Fits J.n J.L s M St S) : Calls Tryz.prog 38 #[.pointer (some ⟨J.v, 0, none⟩)] w fun e w' => e = .returned (.int .i64 ((St * (M - 1) : Nat) : Int)) ∧ Below w.heap.size w w' := by
  have c2 := cell_of_row _ _ 2 _ _ _ h.vo.vol.root
  have c4 := cell_of_row _ _ 4 _ _ _ h.vo.vol.root
  simp only [List.getElem?_toArray, List.getElem?_cons_zero, List.getElem?_cons_succ, hf.mem, hf.str] at c2 c4
  have hc := Lib.hid (fun w => L.cap_ok M St w hf.m3 hf.m16 hf.s1 hf.s2)
  have hz : St * (M - 1) ≤ 1024 * 15 := Nat.mul_le_mul hf.s2 (by have := hf.m16; omega)
  generalize St * (M - 1) = z at *
  clear h hf
  go_enter Tryz.func38, Tryz.ntmps38
  go_wp2
  go_quiet ((go_at_call 91; exact Calls.quiet_of_same ((hc.out _).mono (fun _ _ h => ⟨h.1, h.2.symm⟩))))
  go_wp2
  go_ret
  exact ⟨rfl, drew_n _ _⟩
/-- Is there such a block? -/
def hasB (M St : Nat) (n : Int) : Bool := decide (0 ≤ n ∧ n < ((St * (M - 1) : Nat) : Int))
theorem vhas (h : Vr J w s o S F D U) (hf : Fits J.n J.L s M St S) (n : Int) : Calls Tryz.prog 55 #[.pointer (some ⟨J.v, 0, none⟩), .int .i64 n] w fun e w' => e = .returned (.bool (hasB M St n)) ∧ Below w.heap.size w w' := by
  have hs := Lib.hid (vsize h hf)
  unfold hasB
  generalize ((St * (M - 1) : Nat) : Int) = z at *
  clear h hf
  by_cases h0 : 0 ≤ n
  · have q1 : decide (n ≥ 0) = true := by simpa using h0
    by_cases h1 : n < z
    · have q2 : decide (n < z) = true := by simpa using h1
      rw [decide_eq_true (And.intro h0 h1)]
      clear h0 h1
      go_enter Tryz.func55, Tryz.ntmps55
      go_wp2_with fail
      refine hs.out.mono ?_
      rintro e w' ⟨rfl, hb⟩
      go_wp2
      go_ret
      exact ⟨rfl, hb⟩
    · have q2 : decide (n < z) = false := by simpa using h1
      rw [decide_eq_false (fun e => h1 e.2)]
      clear h0 h1
      go_enter Tryz.func55, Tryz.ntmps55
      go_wp2_with fail
      refine hs.out.mono ?_
      rintro e w' ⟨rfl, hb⟩
      go_wp2
      go_ret
      exact ⟨rfl, hb⟩
  · have q1 : decide (n ≥ 0) = false := by simpa using h0
    rw [decide_eq_false (fun e => h0 e.1)]
    clear h0
    go_enter Tryz.func55, Tryz.ntmps55
    go_wp2
    go_ret
    exact ⟨rfl, Below.refl _ _⟩
/-- What a volume refuses. -/
def refY (S : Sh.Sf) (b : Bool) : Int := if b then (if S.off then 3 else 0) else 1
theorem vrefusal (h : Vr J w s o S F D U) (b : Bool) : Calls Tryz.prog 54 #[.pointer (some ⟨J.v, 0, none⟩), .bool b] w fun e w' => e = .returned (.int .i64 (refY S b)) ∧ w = w' := by
  have c0 := cell_of_row _ _ 0 _ _ _ h.vo.vol.root
  simp only [List.getElem?_toArray, List.getElem?_cons_zero] at c0
  have ho : Hid (Calls Tryz.prog 44 #[.pointer (some ⟨J.p, 0, none⟩)] w fun e w' => e = .returned (.bool S.off) ∧ w = w') := Lib.hid (by
    obtain ⟨D0, gs, q⟩ := h.vo.ds.on.shelf
    exact Sh.off_any q)
  unfold refY
  generalize S.off = off at *
  clear h
  cases b
  · go_enter Tryz.func54, Tryz.ntmps54
    go_wp2
    go_ret
    exact ⟨rfl, rfl⟩
  · cases off
    all_goals
      go_enter Tryz.func54, Tryz.ntmps54
      go_wp2_with fail
      refine ho.out.mono ?_
      rintro e w' ⟨rfl, rfl⟩
      go_wp2
      go_ret
      exact ⟨rfl, rfl⟩
theorem dead_dev {B : Nat} {W : World} {a p d : Nat} {o : Int} (h : Dv B W w a p d o S F) (hd : d < S.disks.length) : Calls Tryz.prog 66 #[.pointer (some ⟨a, 0, none⟩)] w fun e w' => e = .returned (.bool (dk S d).dead) ∧ Below w.heap.size w w' := by
  have c0 := h.dev.c0
  have c1 := h.dev.c1
  have HD : Hid (∀ k, Calls Tryz.prog 111 #[.pointer (some ⟨p, 0, none⟩), .int .i64 d] (w.drewN k) fun e w' => e = .returned (.bool (dk S d).dead) ∧ w.drewN k = w') := Lib.hid fun k => by
    obtain ⟨D0, gs, q⟩ := (h.grown (drew_n w k)).on.shelf
    exact Sh.dead_yes q d hd
  generalize (dk S d).dead = b at *
  clear h
  go_enter Tryz.func66, Tryz.ntmps66
  go_wp2
  go_quiet ((go_at_call 111; exact Calls.quiet_of_same ((HD.out _).mono (fun _ _ h => ⟨h.1, h.2.symm⟩))))
  go_wp2
  go_ret
  exact ⟨rfl, drew_n _ _⟩
end
end Go.Proofs.YtplbgjjacomceaaGreatDoor.U
namespace Go.Proofs.YtplbgjjacomceaaGreatDoor.U
open Go.RowKit Go.Maps

theorem tog_sec {n L M St : Nat} {s : Go.Proofs.YtplbgjjacomceaaGreatDoor.S.Sup} {S : Sh.Sf} (hf : Fits n L s M St S) {st k : Nat} {tk : Nat → Bool} (hV : ∀ d, d < n → Sh.Sec (V S d (dataOf k))) {j : Nat} (hj : j ≤ M) : Sh.Sec (tog s M k st tk S j).2.1 := by
  induction j with
  | zero => exact Sh.noughts_sec
  | succ j ih =>
    have h1 := ih (by omega)
    unfold tog
    simp only
    split
    · exact h1
    · show Sh.Sec (if _ then _ else _)
      split
      · rw [(tog_same (s := s) (M := M) (k := k) (st := st) (tk := tk) (S := S) j).V]
        exact xorL_sec h1 (hV _ (hf.num_lt st (by omega)))
      · exact h1
theorem partR_sec {n L M St : Nat} {s : Go.Proofs.YtplbgjjacomceaaGreatDoor.S.Sup} {S : Sh.Sf} (hf : Fits n L s M St S) {st k a b : Nat} (hV : ∀ d, d < n → Sh.Sec (V S d (dataOf k))) : Sh.Sec (partR s M k st a b S).2.1 := by
  unfold partR
  split
  · exact tog_sec hf hV (Nat.le_refl _)
  · have hs := tog_same (s := s) (M := M) (k := k) (st := st) (tk := tkNeither a b) (S := S) M
    exact tog_sec (hf.same hs.len hs.sectors) (fun d hd => by rw [hs.V]; exact hV d hd) (Nat.le_refl _)
/-- What writeBoth leaves: the disk of the block, that of the parity. -/
inductive WbR (n L : Nat) (s : Go.Proofs.YtplbgjjacomceaaGreatDoor.S.Sup) (M k st a pl b : Nat) (x : Sh.Bs) (D U : Set0) (S : Sh.Sf) (o : Nat → Int) : Int → Stt → Set0 → Set0 → Prop
  | lack : (partR s M k st a b S).2.2 ≠ 0 → WbR n L s M k st a pl b x D U S o (partR s M k st a b S).2.2 ⟨(partR s M k st a b S).1, o⟩ D U
  | recd (y : Int) (a1 : Stt) (D1 U1 : Set0) : (partR s M k st a b S).2.2 = 0 → RecR n L (numOf s M st b) (partR s M k st a b S).2.1 (headL (numF st pl (Nums.sum 0 (partR s M k st a b S).2.1))) ⟨(partR s M k st a b S).1, o⟩ D U y a1 D1 U1 → y ≠ 0 → WbR n L s M k st a pl b x D U S o y a1 D1 U1
  | data (y : Int) (a1 : Stt) (D1 U1 : Set0) (z : Int) (S2 : Sh.Sf) : (partR s M k st a b S).2.2 = 0 → RecR n L (numOf s M st b) (partR s M k st a b S).2.1 (headL (numF st pl (Nums.sum 0 (partR s M k st a b S).2.1))) ⟨(partR s M k st a b S).1, o⟩ D U 0 a1 D1 U1 → DW a1.S (numOf s M st a) (a1.o (numOf s M st a)) k x y z S2 → y ≠ 0 →
      WbR n L s M k st a pl b x D U S o y ⟨S2, put1 a1.o (numOf s M st a) z⟩ (D1.put (.int .i64 st) one0) U1
  | both (y : Int) (a1 : Stt) (D1 U1 : Set0) (z z3 : Int) (S2 S3 : Sh.Sf) : (partR s M k st a b S).2.2 = 0 → RecR n L (numOf s M st b) (partR s M k st a b S).2.1 (headL (numF st pl (Nums.sum 0 (partR s M k st a b S).2.1))) ⟨(partR s M k st a b S).1, o⟩ D U 0 a1 D1 U1 → DW a1.S (numOf s M st a) (a1.o (numOf s M st a)) k x 0 z S2 →
      DW S2 (numOf s M st b) (put1 a1.o (numOf s M st a) z (numOf s M st b)) k (xorL (partR s M k st a b S).2.1 x) y z3 S3 →
      WbR n L s M k st a pl b x D U S o y ⟨S3, put1 (put1 a1.o (numOf s M st a) z) (numOf s M st b) z3⟩ ((D1.put (.int .i64 st) one0).put (.int .i64 st) one0) U1
theorem RecTail.len {d k : Nat} {l hd : Sh.Bs} {a b : Stt} {D U D' U' : Set0} {y : Int} (h : RecTail d k l hd a D U y b D' U') : b.S.disks.length = a.S.disks.length ∧ b.S.sectors = a.S.sectors := by
  obtain ⟨_, _, z, o1, S1, h1, ⟨_, _, rfl⟩ | ⟨_, _, rfl⟩⟩ := h
  · exact ⟨h1.len, h1.sectors⟩
  · exact ⟨(fl_length _ _).trans h1.len, (fl_sectors _ _).trans h1.sectors⟩
theorem RecTail.waits {d k m : Nat} {l hd : Sh.Bs} {a b : Stt} {D U D' U' : Set0} {y : Int} (h : RecTail d k l hd a D U y b D' U') (hL : ∀ x ∈ a.S.disks, x.waits.length ≤ m) : ∀ x ∈ b.S.disks, x.waits.length ≤ m + 6 := by
  obtain ⟨_, _, z, o1, S1, h1, ⟨_, _, rfl⟩ | ⟨_, _, rfl⟩⟩ := h
  · exact h1.waits hL
  · exact fl_lens (h1.waits hL)
theorem RecR.len {n L d : Nat} {l hd : Sh.Bs} {a b : Stt} {D U D' U' : Set0} {y : Int} (h : RecR n L d l hd a D U y b D' U') : b.S.disks.length = a.S.disks.length ∧ b.S.sectors = a.S.sectors := by
  rcases h with ⟨_, h⟩ | ⟨_, y1, a1, D1, U1, h1, ⟨_, _, rfl, _, _⟩ | ⟨_, h2⟩⟩
  · exact h.len
  · exact h1.len
  · exact ⟨h2.len.1.trans h1.len.1, h2.len.2.trans h1.len.2⟩
theorem RecR.waits {n L d m : Nat} {l hd : Sh.Bs} {a b : Stt} {D U D' U' : Set0} {y : Int} (h : RecR n L d l hd a D U y b D' U') (hn : n ≤ 17) (h8 : L ≤ 8) (hL : ∀ x ∈ a.S.disks, x.waits.length ≤ m) : ∀ x ∈ b.S.disks, x.waits.length ≤ m + 414 := by
  rcases h with ⟨_, h⟩ | ⟨_, y1, a1, D1, U1, h1, ⟨_, _, rfl, _, _⟩ | ⟨_, h2⟩⟩
  · intro x hx; have := h.waits hL x hx; omega
  · intro x hx; have := h1.waits hn h8 hL x hx; omega
  · exact h2.waits (h1.waits hn h8 hL)
theorem size_put_le {D : Set0} {k : TypeId} {w : World} {b : Nat} (h : SetIs w k b D) (K : Keyed Tryz.prog k) {kl : Lit} : Maps.size (D.put kl one0) ≤ Maps.size D + 1 := by
  rw [Maps.size_put (h.tidy K)]
  split <;> omega
section
variable {J : Vk} {w w' : World} {s : Go.Proofs.YtplbgjjacomceaaGreatDoor.S.Sup} {o : Nat → Int} {S : Sh.Sf} {F : Nat → Prop} {D U : Set0} {M St : Nat}
theorem RecQ.sizes {d mm : Nat} {l hd : Sh.Bs} {a b : Stt} {D' U' : Set0} {y : Int} {n L : Nat} (h : RecR n L d l hd a D U y b D' U') (hD : Maps.size D ≤ mm) (hU : Maps.size U ≤ mm) : Maps.size D' ≤ mm := by
  rcases h with ⟨_, ⟨rfl, _⟩⟩ | ⟨_, y1, a1, D1, U1, h1, ⟨_, _, _, rfl, _⟩ | ⟨_, ⟨rfl, _⟩⟩⟩
  · exact hD
  · exact (h1.sets hD hU).1
  · exact (h1.sets hD hU).1
theorem Vr.secs (h : Vr J w s o S F D U) (hf : Fits J.n J.L s M St S) {k : Nat} (hk : k < 2 + 2 * J.L + St) : ∀ d, d < J.n → Sh.Sec (V S d (dataOf k)) := fun d hd =>
  h.sec (by rw [hf.len]; exact hd) (sum_of_lt (show k < blk S.sectors by have := hf.need; omega)).1
def WbQ (J : Vk) (w : World) (s : Go.Proofs.YtplbgjjacomceaaGreatDoor.S.Sup) (o : Nat → Int) (S : Sh.Sf) (F : Nat → Prop) (D U : Set0) (M st a pl b : Nat) (x : Sh.Bs) (y : Int) (w' : World) : Prop :=
  ∃ e D' U', WbR J.n J.L s M (2 + 2 * J.L + st) st a pl b x D U S o y e D' U' ∧ RGoes J w w' s e.o e.S F D' U'
/-- What stays while a record is put. -/
def Sb (q0 q1 st pl : Nat) (B : Option Addr) (c : Nat) (W' : World) : Prop := W'.cell? ⟨q0, 0, none⟩ = some (.int .i64 st) ∧ W'.cell? ⟨q1, 0, none⟩ = some (.int .i64 st) ∧ W'.cell? ⟨q1, 1, none⟩ = some (.int .i64 pl) ∧ W'.cell? ⟨q1, 2, none⟩ = some (.slice B 128 c)
theorem sb_goes {w2 : World} {F2 : Nat → Prop} {q0 q1 st pl c : Nat} {B : Option Addr} (h : Sb q0 q1 st pl B c w) (h0 : q0 < w.heap.size ∧ ¬ AllV J F q0) (h1 : q1 < w.heap.size ∧ ¬ AllV J F q1) (m : Sh.Moves (AllV J F) w (AllV J F2) w2) : Sb q0 q1 st pl B c w2 :=
  ⟨(m.1.cell (p := ⟨q0, 0, none⟩) h0.1 h0.2).trans h.1, (m.1.cell (p := ⟨q1, 0, none⟩) h1.1 h1.2).trans h.2.1, (m.1.cell (p := ⟨q1, 1, none⟩) h1.1 h1.2).trans h.2.2.1, (m.1.cell (p := ⟨q1, 2, none⟩) h1.1 h1.2).trans h.2.2.2⟩
set_option maxRecDepth 20000 in
set_option maxHeartbeats 4000000 in
theorem writeBoth_any (h : Vr J w s o S F D U) (hf : Fits J.n J.L s M St S) (hT : Tabs J.W) (hTB : max 1 2 + 1 ≤ J.B) (hFl : Flds J.W) (hFB : 4 + 1 ≤ J.B) (st a pl b : Nat) (hst : st < St) (ha : a < M) (hpl : pl < 15) (hb : b < M)
    {A : Option Addr} {c mm : Nat} {x : Sh.Bs} (hx : Sh.Sec x) (hA : Sh.Beside w (AllV J F) A x) (hL : ∀ x ∈ S.disks, x.waits.length ≤ mm) (hD : Maps.size D ≤ mm) (hU : Maps.size U ≤ mm) (hmm : mm ≤ 600000000) :
    Calls Tryz.prog 69 #[.pointer (some ⟨J.v, 0, none⟩), spotV st a pl, .int .i64 b, .slice A 128 c] w fun e w' => ∃ y : Int, e = .returned (.int .i64 y) ∧ WbQ J w s o S F D U M st a pl b x y w' := by
  have hb0 : Below w.heap.size w (w.alloc (.cells #[.int .i64 st, .int .i64 a, .int .i64 pl] 93)) := (Below.refl _ _).alloc (Nat.le_refl _) _
  have q0 := heap_alloc_new w (.cells #[.int .i64 st, .int .i64 a, .int .i64 pl] 93)
  have V0 := h.grown hb0
  have HP := Lib.hid (part_any V0 hf hT hTB st a pl b hst)
  have hsec := partR_sec (st := st) (a := a) (b := b) hf (h.secs hf (show 2 + 2 * J.L + st < 2 + 2 * J.L + St by omega))
  have hsame : Same S (partR s M (2 + 2 * J.L + st) st a b S).1 := partR_same
  generalize hpr : partR s M (2 + 2 * J.L + st) st a b S = pr at *
  obtain ⟨S1, x1, y1⟩ := pr
  simp only at HP hsec hsame
  have HPE := Lib.hid hpr
  have HH := Lib.hid (And.intro h (And.intro hf (And.intro hA (And.intro hL (And.intro hD hU)))))
  have HQ := Lib.hid (And.intro q0 (And.intro hb0 (fun e => Nat.lt_irrefl _ (h.lt w.heap.size e))))
  have HF1 := Lib.hid (hf.same hsame.len hsame.sectors)
  have HL1 : Hid (∀ x ∈ S1.disks, x.waits.length ≤ mm) := Lib.hid (by rw [hsame.disks]; exact hL)
  have h17 : J.n ≤ 17 := by
    obtain ⟨D0, gs, q⟩ := h.vo.ds.on.shelf
    have := q.most
    have := hf.len
    omega
  have hL8 := hf.l2
  have hst2 : st < 1024 := by have := hf.s2; omega
  obtain ⟨r0, r1, r2, _⟩ := cells3_of q0
  unfold spotV at *
  clear h hf hA hL hD hU hb0 q0 V0 hsame hpr
  go_enter Tryz.func69, Tryz.ntmps69
  go_wp2_with fail
  generalize w.alloc (.cells #[.int .i64 st, .int .i64 a, .int .i64 pl] 93) = w0 at *
  refine HP.out.mono ?_
  rintro e w1 ⟨⟨B1, n1, c1, rfl, hX⟩, hS1⟩
  clear r0 r1 r2 HP
  by_cases h1 : y1 = 0
  · subst h1
    obtain ⟨hn1, hBy⟩ : n1 = 128 ∧ Sh.Bytes w0 w1 B1 x1 := by
      rcases hX with ⟨_, h1, h2⟩ | ⟨h1, _⟩
      · exact ⟨h1, h2⟩
      · exact absurd rfl h1
    subst hn1
    obtain ⟨h, hf, hA, hL, hD, hU⟩ := HH.out
    obtain ⟨q0, hb0, hn0⟩ := HQ.out
    have V0 := h.grown hb0
    have hbe := V0.beside_new hBy
    have hm1 : Sh.Moves (AllV J F) w (AllV J F) w1 := (moves_grown hb0).trans ⟨hS1.2, fun _ e => .inl e⟩
    obtain ⟨hq01, hn01⟩ := beside_goes q0 hn0 (⟨hS1.2, fun _ e => .inl e⟩ : Sh.Moves (AllV J F) w0 (AllV J F) w1)
    have hbw : Below w1.heap.size w1 (w1.alloc (.cells #[.int .i64 st, .int .i64 pl, .slice B1 128 c1] 161)) := (Below.refl _ _).alloc (Nat.le_refl _) _
    have hq1 := heap_alloc_new w1 (.cells #[.int .i64 st, .int .i64 pl, .slice B1 128 c1] 161)
    have hn1 : ¬ AllV J F w1.heap.size := fun e => Nat.lt_irrefl _ (hS1.1.lt _ e)
    have hbd := hbw.trans ((drew_below (w1.alloc (.cells #[.int .i64 st, .int .i64 pl, .slice B1 128 c1] 161))).mono hbw.size)
    have V1 := hS1.1.grown hbd
    have hmd := hm1.trans (moves_grown (G := AllV J F) hbd)
    have hq02 := (hbw.block _ (lt_of_block hq01)).trans hq01
    have HN := Lib.hid (numberOf_ok V1.vo.vol hf.mem st b)
    have hdb := hf.num_lt st hb
    have HREC := Lib.hid (record_any V1 HF1.out hT hTB hFl hFB (numOf s M st b) hdb st pl hst2 hpl (c := c1) hsec (hbe.moves (moves_grown (G := AllV J F) hbd)) HL1.out hU hD (by omega))
    have HQ1 : Hid ((w.heap.size < (w1.alloc (.cells #[.int .i64 st, .int .i64 pl, .slice B1 128 c1] 161)).drew.heap.size ∧ ¬ AllV J F w.heap.size) ∧ (w1.heap.size < (w1.alloc (.cells #[.int .i64 st, .int .i64 pl, .slice B1 128 c1] 161)).drew.heap.size ∧ ¬ AllV J F w1.heap.size)) := Lib.hid ⟨⟨lt_of_block hq02, hn0⟩, ⟨lt_of_block hq1, hn1⟩⟩
    obtain ⟨k0, k1, k2, _⟩ := cells3_of hq01
    have hSb : Sb w.heap.size w1.heap.size st pl B1 c1 (w1.alloc (.cells #[.int .i64 st, .int .i64 pl, .slice B1 128 c1] 161)).drew := ⟨(cells3_of hq02).1, (cells3_of hq1).1, (cells3_of hq1).2.1, (cells3_of hq1).2.2.1⟩
    have HK := Lib.hid (And.intro hbe (And.intro hmd (And.intro hq02 hbd)))
    have i0 := fun (W' : World) (h : Sb w.heap.size w1.heap.size st pl B1 c1 W') => h.1
    have i1 := fun (W' : World) (h : Sb w.heap.size w1.heap.size st pl B1 c1 W') => h.2.1
    have i2 := fun (W' : World) (h : Sb w.heap.size w1.heap.size st pl B1 c1 W') => h.2.2.1
    have i3 := fun (W' : World) (h : Sb w.heap.size w1.heap.size st pl B1 c1 W') => h.2.2.2
    clear h hf hA hL hD hU q0 hb0 hn0 V0 hbe hm1 hq01 hn01 hbw hq1 hn1 hbd V1 hmd hq02 hX hS1 hBy
    go_wp2_with fail
    generalize w1.alloc (.cells #[.int .i64 st, .int .i64 pl, .slice B1 128 c1] 161) = w1a at *
    refine wp_region_held_drew (S := Sb w.heap.size w1.heap.size st pl B1 c1) (by kernel_rfl) hSb (fun hHeld => ?_)
    refine wpAnyH_take (i := 0) (oi := ⟨some 30, _, _, _, _, _⟩) (v := ?_) rfl (by kernel_rfl) (by kernel_rfl) (by kernel_rfl) (fun _ _ _ h => h) (Or.inl ⟨by rfl, ?_⟩) (by assumption) ?_
    rotate_left
    · (intro w hSw; (try dsimp only at hSw); go_simp; first | done | with_reducible rfl)
    try simp only [Act.put, List.setIfInBounds_toArray, List.set_cons_zero, List.set_cons_succ]
    refine wpAnyH_take (i := 1) (oi := ⟨some 31, _, _, _, _, _⟩) (v := ?_) rfl (by kernel_rfl) (by kernel_rfl) (by kernel_rfl) (fun _ _ _ h => h) (Or.inl ⟨by rfl, ?_⟩) (by assumption) ?_
    rotate_left
    · (intro w hSw; (try dsimp only at hSw); go_simp; first | done | with_reducible rfl)
    try simp only [Act.put, List.setIfInBounds_toArray, List.set_cons_zero, List.set_cons_succ]
    refine wpAnyH_take (i := 2) (oi := ⟨some 32, _, _, _, _, _⟩) (v := ?_) rfl (by kernel_rfl) (by kernel_rfl) (by kernel_rfl) (fun _ _ _ h => h) (Or.inl ⟨by rfl, ?_⟩) (by assumption) ?_
    rotate_left
    · (intro w hSw; (try dsimp only at hSw); go_simp; first | done | with_reducible rfl)
    try simp only [Act.put, List.setIfInBounds_toArray, List.set_cons_zero, List.set_cons_succ]
    refine wpAnyH_take (i := 3) (oi := ⟨some 33, _, _, _, _, _⟩) (v := ?_) rfl (by kernel_rfl) (by kernel_rfl) (by kernel_rfl) (fun _ _ _ h => h) (Or.inl ⟨by rfl, ?_⟩) (by assumption) ?_
    rotate_left
    · (intro w hSw; (try dsimp only at hSw); go_simp; first | done | with_reducible rfl)
    try simp only [Act.put, List.setIfInBounds_toArray, List.set_cons_zero, List.set_cons_succ]
    refine wpAnyH_take (i := 4) (oi := ⟨some 34, _, _, _, _, _⟩) (v := ?_) rfl (by kernel_rfl) (by kernel_rfl) (by kernel_rfl) (fun _ _ _ h => h) (Or.inl ⟨by rfl, ?_⟩) (by assumption) ?_
    rotate_left
    · (intro w hSw; (try dsimp only at hSw); go_simp; first | done | with_reducible rfl)
    try simp only [Act.put, List.setIfInBounds_toArray, List.set_cons_zero, List.set_cons_succ]
    refine wpAnyH_take (i := 6) (oi := ⟨some 36, _, _, _, _, _⟩) (v := ?_) rfl (by kernel_rfl) (by kernel_rfl) (by kernel_rfl) (fun _ _ _ h => h) (Or.inl ⟨by rfl, ?_⟩) (by assumption) ?_
    rotate_left
    · (intro w hSw; (try dsimp only at hSw); go_simp; first | done | with_reducible rfl)
    try simp only [Act.put, List.setIfInBounds_toArray, List.set_cons_zero, List.set_cons_succ]
    refine wpAnyH_ready (rs := [5]) (by kernel_rfl) (by simp) ?_
    refine AllReadyH.cons (o := ⟨some 35, _, _, _, _, _⟩) rfl (fun K hK => ?_) AllReadyH.nil
    go_simp
    refine (HN.out).mono ?_
    rintro e w' ⟨rfl, rfl⟩
    refine hK.out _ _ (hHeld) (fun hHeld => ?_)
    clear hK K
    try simp only [Act.put, List.setIfInBounds_toArray, List.set_cons_zero, List.set_cons_succ]
    refine wpAnyH_ready (rs := [7]) (by kernel_rfl) (by simp) ?_
    refine AllReadyH.cons (o := ⟨some 37, _, _, _, _, _⟩) rfl (fun K hK => ?_) AllReadyH.nil
    go_simp
    refine (HREC.out).mono ?_
    rintro e w2 ⟨y2, rfl, a2, D2, U2, hRR, F2, V2, m2⟩
    refine hK.out _ _ (sb_goes hHeld HQ1.out.1 HQ1.out.2 m2) (fun hHeld => ?_)
    clear hK K
    try simp only [Act.put, List.setIfInBounds_toArray, List.set_cons_zero, List.set_cons_succ]
    refine wpAnyH_take (i := 8) (oi := ⟨some 12, _, _, _, _, _⟩) (v := ?_) rfl (by kernel_rfl) (by kernel_rfl) (by kernel_rfl) (fun _ _ _ h => h) (Or.inl ⟨by rfl, ?_⟩) (by assumption) ?_
    rotate_left
    · (intro w hSw; (try dsimp only at hSw); go_simp; first | done | with_reducible rfl)
    try simp only [Act.put, List.setIfInBounds_toArray, List.set_cons_zero, List.set_cons_succ]
    refine wpAnyH_done (by kernel_rfl) ?_ _
    obtain ⟨hbe, hmd, hq02, hbd⟩ := HK.out
    have hs6 : w1a.drew.heap[w.heap.size]? = some (.cells #[.int .i64 st, .int .i64 a, .int .i64 pl] 93 (0, 0)) := hq02
    obtain ⟨hq2, hn2⟩ := beside_goes hs6 HQ1.out.1.2 m2
    have hm2 := hmd.trans m2
    have hbe2 := (hbe.moves (moves_grown (G := AllV J F) hbd)).moves m2
    clear hHeld hSb i0 i1 i2 i3 HREC HN k0 k1 k2 hbe hmd hq02 hbd hs6
    by_cases h2 : y2 = 0
    · subst h2
      have HRR := Lib.hid hRR
      have hlen2 := hRR.len
      have hwt2 := hRR.waits h17 hL8 HL1.out
      have hsz2 := RecQ.sizes hRR HH.out.2.2.2.2.1 HH.out.2.2.2.2.2
      have hf2 := HF1.out.same hlen2.1 hlen2.2
      have hA2 := HH.out.2.2.1.moves hm2
      have HCH := Lib.hid (change_any V2 hf2 hT hTB st a hst ha (c := c) hx hA2 hwt2 (Nat.le_trans hsz2 (Nat.le_add_right _ _)) (by omega))
      obtain ⟨k0, k1, _, _⟩ := cells3_of hq2
      have HK2 := Lib.hid (And.intro hm2 (And.intro hbe2 (And.intro hq2 (And.intro hn2 (And.intro hf2 (And.intro hwt2 (And.intro hA2 (And.intro V2 hsz2))))))))
      clear hRR V2 m2 hm2 hbe2 hq2 hn2 hlen2 hwt2 hsz2 hf2 hA2
      go_wp2_with fail
      refine HCH.out.mono ?_
      rintro e w3 ⟨y3, rfl, x3, S3, hD3, F3, V3, m3⟩
      clear HCH k0 k1
      by_cases h3 : y3 = 0
      · subst h3
        obtain ⟨hm2, hbe2, hq2, hn2, hf2, hwt2, hA2, V2, hsz2⟩ := HK2.out
        obtain ⟨hq3, hn3⟩ := beside_goes hq2 hn2 m3
        have hd3 := drew_below w3
        have V3d := V3.grown hd3
        have hm3 := (hm2.trans m3).trans (moves_grown (G := AllV J F3) hd3)
        have hbe3 := (hbe2.moves m3).moves (moves_grown (G := AllV J F3) hd3)
        have hA3 := (hA2.moves m3).moves (moves_grown (G := AllV J F3) hd3)
        have HXO := Lib.hid (rxor_ok B1 A c1 c x1 x w3.drew hsec.2 hx.2 hbe3.1 hA3.1)
        have HQ4 := Lib.hid (And.intro (show w.heap.size < w3.drew.heap.size from lt_of_block hq3) hn3)
        have hwt3 := hD3.waits hwt2
        have hf3 := hf2.same hD3.len hD3.sectors
        have hst3 : Maps.size (D2.put (.int .i64 st) one0) ≤ mm + 417 := by
          have := size_put_le (kl := .int .i64 st) V2.opens lawInt2
          omega
        have HC2 : Hid (∀ (w4 : World) (E : Option Addr) (f : Nat), w4.ownsRow w3.drew.heap.size 5 1 (.slice E 128 f) 128 (bts (xorL x1 x)) → Below w3.drew.heap.size w3.drew w4 → Calls Tryz.prog 67 #[.pointer (some ⟨J.v, 0, none⟩), .int .i64 st, .int .i64 b, .slice E 128 f] w4 fun e w' => ∃ y : Int, e = .returned (.int .i64 y) ∧ ∃ x4 S4, DW S3 (numOf s M st b) (put1 a2.o (numOf s M st a) x3 (numOf s M st b)) (2 + 2 * J.L + st) (xorL x1 x) y x4 S4 ∧ RGoes J w w' s (put1 (put1 a2.o (numOf s M st a) x3) (numOf s M st b) x4) S4 F ((D2.put (.int .i64 st) one0).put (.int .i64 st) one0) U2 ∧ w'.cell? ⟨w.heap.size, 0, none⟩ = some (.int .i64 st)) := Lib.hid fun w4 E f hown hb4 => by
          have V4 := V3d.grown hb4
          have hby : Sh.Bytes w3.drew w4 E (xorL x1 x) := bytes_own hown (Nat.le_refl _)
          refine (change_any V4 hf3 hT hTB st b hst hb (c := f) (xorL_sec hsec hx) (V3d.beside_new hby) hwt3 (by omega) (by omega)).mono ?_
          rintro e w5 ⟨y4, rfl, x4, S4, hD4, hG4⟩
          obtain ⟨F4, V4b, m4⟩ := hG4
          have hc0 := (m4.1.cell (p := ⟨w.heap.size, 0, none⟩) (Nat.lt_of_lt_of_le (lt_of_block hq3) hb4.size) hn3).trans ((hb4.cell (p := ⟨w.heap.size, 0, none⟩) (lt_of_block hq3)).trans (cells3_of hq3).1)
          exact ⟨y4, rfl, x4, S4, hD4, RGoes.trans (hm3.trans (moves_grown hb4)) ⟨F4, V4b, m4⟩, hc0⟩
        have k0 : w3.drew.cell? ⟨w.heap.size, 0, none⟩ = some (.int .i64 st) := (cells3_of hq3).1
        have HD3 := Lib.hid hD3
        clear hD3 V3 m3 hm2 hbe2 hq2 hn2 hf2 hwt2 hA2 V2 hsz2 hq3 hn3 hd3 V3d hm3 hbe3 hA3 hwt3 hf3 hst3
        go_wp2_with fail
        refine wp_region_held_drew (S := fun W' => W'.cell? ⟨w.heap.size, 0, none⟩ = some (.int .i64 st)) (by kernel_rfl) k0 (fun hHeld => ?_)
        refine wpAnyH_take (i := 0) (oi := ⟨some 51, _, _, _, _, _⟩) (v := ?_) rfl (by kernel_rfl) (by kernel_rfl) (by kernel_rfl) (fun _ _ _ h => h) (Or.inl ⟨by rfl, ?_⟩) (by assumption) ?_
        rotate_left
        · (intro w hSw; (try dsimp only at hSw); go_simp; first | done | with_reducible rfl)
        try simp only [Act.put, List.setIfInBounds_toArray, List.set_cons_zero, List.set_cons_succ]
        refine wpAnyH_take (i := 1) (oi := ⟨some 52, _, _, _, _, _⟩) (v := ?_) rfl (by kernel_rfl) (by kernel_rfl) (by kernel_rfl) (fun _ _ _ h => h) (Or.inl ⟨by rfl, ?_⟩) (by assumption) ?_
        rotate_left
        · (intro w hSw; (try dsimp only at hSw); go_simp; first | done | with_reducible rfl)
        try simp only [Act.put, List.setIfInBounds_toArray, List.set_cons_zero, List.set_cons_succ]
        refine wpAnyH_take (i := 2) (oi := ⟨some 53, _, _, _, _, _⟩) (v := ?_) rfl (by kernel_rfl) (by kernel_rfl) (by kernel_rfl) (fun _ _ _ h => h) (Or.inl ⟨by rfl, ?_⟩) (by assumption) ?_
        rotate_left
        · (intro w hSw; (try dsimp only at hSw); go_simp; first | done | with_reducible rfl)
        try simp only [Act.put, List.setIfInBounds_toArray, List.set_cons_zero, List.set_cons_succ]
        refine wpAnyH_take (i := 3) (oi := ⟨some 54, _, _, _, _, _⟩) (v := ?_) rfl (by kernel_rfl) (by kernel_rfl) (by kernel_rfl) (fun _ _ _ h => h) (Or.inl ⟨by rfl, ?_⟩) (by assumption) ?_
        rotate_left
        · (intro w hSw; (try dsimp only at hSw); go_simp; first | done | with_reducible rfl)
        try simp only [Act.put, List.setIfInBounds_toArray, List.set_cons_zero, List.set_cons_succ]
        refine wpAnyH_take (i := 4) (oi := ⟨some 55, _, _, _, _, _⟩) (v := ?_) rfl (by kernel_rfl) (by kernel_rfl) (by kernel_rfl) (fun _ _ _ h => h) (Or.inl ⟨by rfl, ?_⟩) (by assumption) ?_
        rotate_left
        · (intro w hSw; (try dsimp only at hSw); go_simp; first | done | with_reducible rfl)
        try simp only [Act.put, List.setIfInBounds_toArray, List.set_cons_zero, List.set_cons_succ]
        refine wpAnyH_take (i := 5) (oi := ⟨some 56, _, _, _, _, _⟩) (v := ?_) rfl (by kernel_rfl) (by kernel_rfl) (by kernel_rfl) (fun _ _ _ h => h) (Or.inl ⟨by rfl, ?_⟩) (by assumption) ?_
        rotate_left
        · (intro w hSw; (try dsimp only at hSw); go_simp; first | done | with_reducible rfl)
        try simp only [Act.put, List.setIfInBounds_toArray, List.set_cons_zero, List.set_cons_succ]
        refine wpAnyH_ready (rs := [6]) (by kernel_rfl) (by simp) ?_
        refine AllReadyH.cons (o := ⟨some 57, _, _, _, _, _⟩) rfl (fun K hK => ?_) AllReadyH.nil
        go_simp
        refine (HXO.out).mono ?_
        rintro e w4 ⟨E, f, rfl, hown, hb4⟩
        refine hK.out _ _ ((hb4.cell (p := ⟨w.heap.size, 0, none⟩) HQ4.out.1).trans hHeld) (fun hHeld => ?_)
        clear hK K
        try simp only [Act.put, List.setIfInBounds_toArray, List.set_cons_zero, List.set_cons_succ]
        have HCH2 := Lib.hid (HC2.out w4 E f hown hb4)
        refine wpAnyH_ready (rs := [7]) (by kernel_rfl) (by simp) ?_
        refine AllReadyH.cons (o := ⟨some 58, _, _, _, _, _⟩) rfl (fun K hK => ?_) AllReadyH.nil
        go_simp
        refine (HCH2.out).mono ?_
        rintro e w5 ⟨y4, rfl, x4, S4, hD4, hG4, hc9⟩
        refine hK.out _ _ (hc9) (fun hHeld => ?_)
        clear hK K
        try simp only [Act.put, List.setIfInBounds_toArray, List.set_cons_zero, List.set_cons_succ]
        refine wpAnyH_take (i := 8) (oi := ⟨some 8, _, _, _, _, _⟩) (v := ?_) rfl (by kernel_rfl) (by kernel_rfl) (by kernel_rfl) (fun _ _ _ h => h) (Or.inl ⟨by rfl, ?_⟩) (by assumption) ?_
        rotate_left
        · (intro w hSw; (try dsimp only at hSw); go_simp; first | done | with_reducible rfl)
        try simp only [Act.put, List.setIfInBounds_toArray, List.set_cons_zero, List.set_cons_succ]
        refine wpAnyH_done (by kernel_rfl) ?_ _
        have HGG := Lib.hid hG4
        have HR := Lib.hid (WbR.both (n := J.n) (L := J.L) (s := s) (M := M) (k := 2 + 2 * J.L + st) (st := st) (a := a) (pl := pl) (b := b) (x := x) (D := D) (U := U) (S := S) (o := o) y4 a2 D2 U2 x3 x4 S3 S4 (by rw [HPE.out]) (by rw [HPE.out]; exact HRR.out) HD3.out (by rw [HPE.out]; exact hD4))
        clear hD4 hG4 hc9 hHeld hown hb4 HCH2
        go_wp2
        go_ret
        exact ⟨y4, rfl, _, _, _, HR.out, HGG.out⟩
      · have hq : (y3 != 0) = true := by simpa using h3
        have hqq : (y3 == 0) = false := by simpa using h3
        have HG := Lib.hid (RGoes.trans (HK2.out.1.trans m3) (RGoes.here V3 (Below.refl _ w3)))
        have HR := Lib.hid (WbR.data (n := J.n) (L := J.L) (s := s) (M := M) (k := 2 + 2 * J.L + st) (st := st) (a := a) (pl := pl) (b := b) (x := x) (D := D) (U := U) (S := S) (o := o) y3 a2 D2 U2 x3 S3 (by rw [HPE.out]) (by rw [HPE.out]; exact HRR.out) hD3 h3)
        clear hD3 V3 m3 h3
        go_wp2
        go_ret
        exact ⟨y3, rfl, _, _, _, HR.out, HG.out⟩
    · have hq : (y2 != 0) = true := by simpa using h2
      have hqq : (y2 == 0) = false := by simpa using h2
      have HG := Lib.hid (RGoes.trans hm2 (RGoes.here V2 (Below.refl _ w2)))
      have HR := Lib.hid (WbR.recd (n := J.n) (L := J.L) (s := s) (M := M) (k := 2 + 2 * J.L + st) (st := st) (a := a) (pl := pl) (b := b) (x := x) (D := D) (U := U) (S := S) (o := o) y2 a2 D2 U2 (by rw [HPE.out]) (by rw [HPE.out]; exact hRR) h2)
      clear hRR V2 m2 hm2 hbe2 hq2 hn2 h2
      go_wp2
      go_ret
      exact ⟨y2, rfl, a2, D2, U2, HR.out, HG.out⟩
  · have hq : (y1 != 0) = true := by simpa using h1
    have hq2 : (y1 == 0) = false := by simpa using h1
    have HG := Lib.hid (RGoes.trans (moves_grown HQ.out.2.1) hS1.goes)
    have H1 := Lib.hid h1
    clear hX hS1 h1
    go_wp2
    go_ret
    exact ⟨y1, rfl, ⟨S1, o⟩, D, U, by have := WbR.lack (n := J.n) (L := J.L) (s := s) (M := M) (k := 2 + 2 * J.L + st) (st := st) (a := a) (pl := pl) (b := b) (x := x) (D := D) (U := U) (S := S) (o := o) (by rw [HPE.out]; exact H1.out); rw [HPE.out] at this; exact this, HG.out⟩
end
end Go.Proofs.YtplbgjjacomceaaGreatDoor.U
namespace Go.Proofs.YtplbgjjacomceaaGreatDoor.U
open Go.RowKit Go.Maps

/-- What writeParity leaves. -/
inductive WpR (s : Go.Proofs.YtplbgjjacomceaaGreatDoor.S.Sup) (M k st a b : Nat) (x : Sh.Bs) (D U : Set0) (S : Sh.Sf) (o : Nat → Int) : Int → Stt → Set0 → Set0 → Prop
  | lack : (tog s M k st (tkNeither a b) S M).2.2 ≠ 0 → WpR s M k st a b x D U S o (tog s M k st (tkNeither a b) S M).2.2 ⟨(tog s M k st (tkNeither a b) S M).1, o⟩ D U
  | done (y z : Int) (S2 : Sh.Sf) : (tog s M k st (tkNeither a b) S M).2.2 = 0 → DW (tog s M k st (tkNeither a b) S M).1 (numOf s M st b) (o (numOf s M st b)) k (xorL (tog s M k st (tkNeither a b) S M).2.1 x) y z S2 → WpR s M k st a b x D U S o y ⟨S2, put1 o (numOf s M st b) z⟩ (D.put (.int .i64 st) one0) U
section
variable {J : Vk} {w w' : World} {s : Go.Proofs.YtplbgjjacomceaaGreatDoor.S.Sup} {o : Nat → Int} {S : Sh.Sf} {F : Nat → Prop} {D U : Set0} {M St : Nat}
def WpQ (J : Vk) (w : World) (s : Go.Proofs.YtplbgjjacomceaaGreatDoor.S.Sup) (o : Nat → Int) (S : Sh.Sf) (F : Nat → Prop) (D U : Set0) (M st a b : Nat) (x : Sh.Bs) (y : Int) (w' : World) : Prop :=
  ∃ e D' U', WpR s M (2 + 2 * J.L + st) st a b x D U S o y e D' U' ∧ RGoes J w w' s e.o e.S F D' U'
set_option maxRecDepth 20000 in
set_option maxHeartbeats 4000000 in
theorem writeParity_any (h : Vr J w s o S F D U) (hf : Fits J.n J.L s M St S) (hT : Tabs J.W) (hTB : max 1 2 + 1 ≤ J.B) (st a pl b : Nat) (hst : st < St) (hb : b < M)
    {A : Option Addr} {c mm : Nat} {x : Sh.Bs} (hx : Sh.Sec x) (hA : Sh.Beside w (AllV J F) A x) (hL : ∀ x ∈ S.disks, x.waits.length ≤ mm) (hD : Maps.size D ≤ mm) (hmm : mm ≤ 600000000) :
    Calls Tryz.prog 68 #[.pointer (some ⟨J.v, 0, none⟩), spotV st a pl, .int .i64 b, .slice A 128 c] w fun e w' => ∃ y : Int, e = .returned (.int .i64 y) ∧ WpQ J w s o S F D U M st a b x y w' := by
  have hb0 : Below w.heap.size w (w.alloc (.cells #[.int .i64 st, .int .i64 a, .int .i64 pl] 93)) := (Below.refl _ _).alloc (Nat.le_refl _) _
  have q0 := heap_alloc_new w (.cells #[.int .i64 st, .int .i64 a, .int .i64 pl] 93)
  have V0 := h.grown hb0
  have HP := Lib.hid (otherData_any V0 hf hT hTB st a pl b hst)
  have hsec : Sh.Sec (tog s M (2 + 2 * J.L + st) st (tkNeither a b) S M).2.1 := tog_sec hf (h.secs hf (show 2 + 2 * J.L + st < 2 + 2 * J.L + St by omega)) (Nat.le_refl _)
  have hsame : Same S (tog s M (2 + 2 * J.L + st) st (tkNeither a b) S M).1 := tog_same M
  generalize hpr : tog s M (2 + 2 * J.L + st) st (tkNeither a b) S M = pr at *
  obtain ⟨S1, x1, y1⟩ := pr
  simp only at HP hsec hsame
  have HPE := Lib.hid hpr
  have HH := Lib.hid (And.intro h (And.intro hf (And.intro hA (And.intro hL hD))))
  have HQ := Lib.hid (And.intro q0 (And.intro hb0 (fun e => Nat.lt_irrefl _ (h.lt w.heap.size e))))
  have HF1 := Lib.hid (hf.same hsame.len hsame.sectors)
  have HL1 : Hid (∀ x ∈ S1.disks, x.waits.length ≤ mm) := Lib.hid (by rw [hsame.disks]; exact hL)
  obtain ⟨r0, r1, r2, _⟩ := cells3_of q0
  unfold spotV at *
  clear h hf hA hL hD hb0 q0 V0 hsame hpr
  go_enter Tryz.func68, Tryz.ntmps68
  go_wp2_with fail
  generalize w.alloc (.cells #[.int .i64 st, .int .i64 a, .int .i64 pl] 93) = w0 at *
  refine HP.out.mono ?_
  rintro e w3 ⟨⟨B1, n1, c1, rfl, hX⟩, hS1⟩
  clear r0 r1 r2 HP
  by_cases h1 : y1 = 0
  · subst h1
    obtain ⟨hn1, hBy⟩ : n1 = 128 ∧ Sh.Bytes w0 w3 B1 x1 := by
      rcases hX with ⟨_, h1, h2⟩ | ⟨h1, _⟩
      · exact ⟨h1, h2⟩
      · exact absurd rfl h1
    subst hn1
    obtain ⟨h, hf, hA, hL, hD⟩ := HH.out
    obtain ⟨q0, hb0, hn0⟩ := HQ.out
    have hm01 : Sh.Moves (AllV J F) w0 (AllV J F) w3 := ⟨hS1.2, fun _ e => .inl e⟩
    have hm1 : Sh.Moves (AllV J F) w (AllV J F) w3 := (moves_grown hb0).trans hm01
    obtain ⟨hq3, hn3⟩ := beside_goes q0 hn0 hm01
    have hd3 := drew_below w3
    have V3d := hS1.1.grown hd3
    have hm3 := hm1.trans (moves_grown (G := AllV J F) hd3)
    have hbe3 := ((h.grown hb0).beside_new hBy).moves (moves_grown (G := AllV J F) hd3)
    have hA3 := (hA.moves hm1).moves (moves_grown (G := AllV J F) hd3)
    have HXO := Lib.hid (rxor_ok B1 A c1 c x1 x w3.drew hsec.2 hx.2 hbe3.1 hA3.1)
    have HQ4 := Lib.hid (And.intro (show w.heap.size < w3.drew.heap.size from lt_of_block hq3) hn3)
    have HC2 : Hid (∀ (w4 : World) (E : Option Addr) (f : Nat), w4.ownsRow w3.drew.heap.size 5 1 (.slice E 128 f) 128 (bts (xorL x1 x)) → Below w3.drew.heap.size w3.drew w4 → Calls Tryz.prog 67 #[.pointer (some ⟨J.v, 0, none⟩), .int .i64 st, .int .i64 b, .slice E 128 f] w4 fun e w' => ∃ y : Int, e = .returned (.int .i64 y) ∧ ∃ x4 S4, DW S1 (numOf s M st b) (o (numOf s M st b)) (2 + 2 * J.L + st) (xorL x1 x) y x4 S4 ∧ RGoes J w w' s (put1 o (numOf s M st b) x4) S4 F (D.put (.int .i64 st) one0) U ∧ w'.cell? ⟨w.heap.size, 0, none⟩ = some (.int .i64 st)) := Lib.hid fun w4 E f hown hb4 => by
      have V4 := V3d.grown hb4
      have hby : Sh.Bytes w3.drew w4 E (xorL x1 x) := bytes_own hown (Nat.le_refl _)
      refine (change_any V4 HF1.out hT hTB st b hst hb (c := f) (xorL_sec hsec hx) (V3d.beside_new hby) HL1.out hD (by omega)).mono ?_
      rintro e w5 ⟨y4, rfl, x4, S4, hD4, hG4⟩
      obtain ⟨F4, V4b, m4⟩ := hG4
      have hc0 := (m4.1.cell (p := ⟨w.heap.size, 0, none⟩) (Nat.lt_of_lt_of_le (lt_of_block hq3) hb4.size) hn3).trans ((hb4.cell (p := ⟨w.heap.size, 0, none⟩) (lt_of_block hq3)).trans (cells3_of hq3).1)
      exact ⟨y4, rfl, x4, S4, hD4, RGoes.trans (hm3.trans (moves_grown hb4)) ⟨F4, V4b, m4⟩, hc0⟩
    have k0 : w3.drew.cell? ⟨w.heap.size, 0, none⟩ = some (.int .i64 st) := (cells3_of hq3).1
    clear h hf hA hL hD q0 hb0 hn0 hm01 hm1 hq3 hn3 hd3 V3d hm3 hbe3 hA3 hX hS1 hBy
    go_wp2_with fail
    refine wp_region_held_drew (S := fun W' => W'.cell? ⟨w.heap.size, 0, none⟩ = some (.int .i64 st)) (by kernel_rfl) k0 (fun hHeld => ?_)
    refine wpAnyH_take (i := 0) (oi := ⟨some 21, _, _, _, _, _⟩) (v := ?_) rfl (by kernel_rfl) (by kernel_rfl) (by kernel_rfl) (fun _ _ _ h => h) (Or.inl ⟨by rfl, ?_⟩) (by assumption) ?_
    rotate_left
    · (intro w hSw; (try dsimp only at hSw); go_simp; first | done | with_reducible rfl)
    try simp only [Act.put, List.setIfInBounds_toArray, List.set_cons_zero, List.set_cons_succ]
    refine wpAnyH_take (i := 1) (oi := ⟨some 22, _, _, _, _, _⟩) (v := ?_) rfl (by kernel_rfl) (by kernel_rfl) (by kernel_rfl) (fun _ _ _ h => h) (Or.inl ⟨by rfl, ?_⟩) (by assumption) ?_
    rotate_left
    · (intro w hSw; (try dsimp only at hSw); go_simp; first | done | with_reducible rfl)
    try simp only [Act.put, List.setIfInBounds_toArray, List.set_cons_zero, List.set_cons_succ]
    refine wpAnyH_take (i := 2) (oi := ⟨some 23, _, _, _, _, _⟩) (v := ?_) rfl (by kernel_rfl) (by kernel_rfl) (by kernel_rfl) (fun _ _ _ h => h) (Or.inl ⟨by rfl, ?_⟩) (by assumption) ?_
    rotate_left
    · (intro w hSw; (try dsimp only at hSw); go_simp; first | done | with_reducible rfl)
    try simp only [Act.put, List.setIfInBounds_toArray, List.set_cons_zero, List.set_cons_succ]
    refine wpAnyH_take (i := 3) (oi := ⟨some 24, _, _, _, _, _⟩) (v := ?_) rfl (by kernel_rfl) (by kernel_rfl) (by kernel_rfl) (fun _ _ _ h => h) (Or.inl ⟨by rfl, ?_⟩) (by assumption) ?_
    rotate_left
    · (intro w hSw; (try dsimp only at hSw); go_simp; first | done | with_reducible rfl)
    try simp only [Act.put, List.setIfInBounds_toArray, List.set_cons_zero, List.set_cons_succ]
    refine wpAnyH_take (i := 4) (oi := ⟨some 25, _, _, _, _, _⟩) (v := ?_) rfl (by kernel_rfl) (by kernel_rfl) (by kernel_rfl) (fun _ _ _ h => h) (Or.inl ⟨by rfl, ?_⟩) (by assumption) ?_
    rotate_left
    · (intro w hSw; (try dsimp only at hSw); go_simp; first | done | with_reducible rfl)
    try simp only [Act.put, List.setIfInBounds_toArray, List.set_cons_zero, List.set_cons_succ]
    refine wpAnyH_take (i := 5) (oi := ⟨some 26, _, _, _, _, _⟩) (v := ?_) rfl (by kernel_rfl) (by kernel_rfl) (by kernel_rfl) (fun _ _ _ h => h) (Or.inl ⟨by rfl, ?_⟩) (by assumption) ?_
    rotate_left
    · (intro w hSw; (try dsimp only at hSw); go_simp; first | done | with_reducible rfl)
    try simp only [Act.put, List.setIfInBounds_toArray, List.set_cons_zero, List.set_cons_succ]
    refine wpAnyH_ready (rs := [6]) (by kernel_rfl) (by simp) ?_
    refine AllReadyH.cons (o := ⟨some 27, _, _, _, _, _⟩) rfl (fun K hK => ?_) AllReadyH.nil
    go_simp
    refine (HXO.out).mono ?_
    rintro e w4 ⟨E, f, rfl, hown, hb4⟩
    refine hK.out _ _ ((hb4.cell (p := ⟨w.heap.size, 0, none⟩) HQ4.out.1).trans hHeld) (fun hHeld => ?_)
    clear hK K
    try simp only [Act.put, List.setIfInBounds_toArray, List.set_cons_zero, List.set_cons_succ]
    have HCH2 := Lib.hid (HC2.out w4 E f hown hb4)
    refine wpAnyH_ready (rs := [7]) (by kernel_rfl) (by simp) ?_
    refine AllReadyH.cons (o := ⟨some 28, _, _, _, _, _⟩) rfl (fun K hK => ?_) AllReadyH.nil
    go_simp
    refine (HCH2.out).mono ?_
    rintro e w5 ⟨y4, rfl, x4, S4, hD4, hG4, hc9⟩
    refine hK.out _ _ (hc9) (fun hHeld => ?_)
    clear hK K
    try simp only [Act.put, List.setIfInBounds_toArray, List.set_cons_zero, List.set_cons_succ]
    refine wpAnyH_take (i := 8) (oi := ⟨some 8, _, _, _, _, _⟩) (v := ?_) rfl (by kernel_rfl) (by kernel_rfl) (by kernel_rfl) (fun _ _ _ h => h) (Or.inl ⟨by rfl, ?_⟩) (by assumption) ?_
    rotate_left
    · (intro w hSw; (try dsimp only at hSw); go_simp; first | done | with_reducible rfl)
    try simp only [Act.put, List.setIfInBounds_toArray, List.set_cons_zero, List.set_cons_succ]
    refine wpAnyH_done (by kernel_rfl) ?_ _
    have HGG := Lib.hid hG4
    have HR := Lib.hid (WpR.done (s := s) (M := M) (k := 2 + 2 * J.L + st) (st := st) (a := a) (b := b) (x := x) (D := D) (U := U) (S := S) (o := o) y4 x4 S4 (by rw [HPE.out]) (by rw [HPE.out]; exact hD4))
    clear hD4 hG4 hc9 hHeld hown hb4 HCH2
    go_wp2
    go_ret
    exact ⟨y4, rfl, _, _, _, HR.out, HGG.out⟩
  · have hq : (y1 != 0) = true := by simpa using h1
    have hq2 : (y1 == 0) = false := by simpa using h1
    have HG := Lib.hid (RGoes.trans (moves_grown HQ.out.2.1) hS1.goes)
    have H1 := Lib.hid h1
    clear hX hS1 h1
    go_wp2
    go_ret
    exact ⟨y1, rfl, ⟨S1, o⟩, D, U, by have := WpR.lack (s := s) (M := M) (k := 2 + 2 * J.L + st) (st := st) (a := a) (b := b) (x := x) (D := D) (U := U) (S := S) (o := o) (by rw [HPE.out]; exact H1.out); rw [HPE.out] at this; exact this, HG.out⟩
end
end Go.Proofs.YtplbgjjacomceaaGreatDoor.U
