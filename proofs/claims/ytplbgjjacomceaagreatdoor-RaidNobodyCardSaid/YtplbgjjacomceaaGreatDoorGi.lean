/-
  raid: Write, Read.
  Conditions: each theorem's own.
-/
import Derived.Test.YtplbgjjacomceaaGreatDoorGh
namespace Go.Proofs.YtplbgjjacomceaaGreatDoor.U
open Go.RowKit Go.Maps

/-- The stripe, the place, the parity's member and the member of a block. -/
def stOf (M n : Nat) : Nat := n / (M - 1)
def plOf (M n : Nat) : Nat := n % (M - 1)
def paOf (M n : Nat) : Nat := L.par M (stOf M n)
def meOf (M n : Nat) : Nat := L.memAt M (paOf M n) (plOf M n)
theorem spot_is (M n : Nat) : L.spot M n = spotV (stOf M n) (meOf M n) (plOf M n) := rfl
/-- What a Write does behind the flush of what was open. -/
inductive WrT (nn LL : Nat) (s : Go.Proofs.YtplbgjjacomceaaGreatDoor.S.Sup) (M k st a pl b : Nat) (x : Sh.Bs) (D U : Set0) (t : Stt) : Int → Stt → Set0 → Set0 → Prop
  | io : (dk t.S (numOf s M st a)).dead = true → (dk t.S (numOf s M st b)).dead = true → WrT nn LL s M k st a pl b x D U t 10 t D U
  | data (y z : Int) (S2 : Sh.Sf) : (dk t.S (numOf s M st a)).dead = false → (dk t.S (numOf s M st b)).dead = true → DW t.S (numOf s M st a) (t.o (numOf s M st a)) k x y z S2 → WrT nn LL s M k st a pl b x D U t y ⟨S2, put1 t.o (numOf s M st a) z⟩ (D.put (.int .i64 st) one0) U
  | par (y : Int) (e : Stt) (D' U' : Set0) : (dk t.S (numOf s M st a)).dead = true → (dk t.S (numOf s M st b)).dead = false → WpR s M k st a b x D U t.S t.o y e D' U' → WrT nn LL s M k st a pl b x D U t y e D' U'
  | both (y : Int) (e : Stt) (D' U' : Set0) : (dk t.S (numOf s M st a)).dead = false → (dk t.S (numOf s M st b)).dead = false → WbR nn LL s M k st a pl b x D U t.S t.o y e D' U' → WrT nn LL s M k st a pl b x D U t y e D' U'
/-- What a Write of 128 bytes leaves. -/
inductive WrR (nn LL : Nat) (s : Go.Proofs.YtplbgjjacomceaaGreatDoor.S.Sup) (M St : Nat) (n : Int) (x : Sh.Bs) (D U : Set0) (S : Sh.Sf) (o : Nat → Int) : Int → Stt → Set0 → Set0 → Prop
  | refused : refY S (hasB M St n) ≠ 0 → WrR nn LL s M St n x D U S o (refY S (hasB M St n)) ⟨S, o⟩ D U
  | flush (m : Nat) (y : Int) (t : Stt) (D1 U1 : Set0) : n = (m : Int) → m < St * (M - 1) → S.off = false → Maps.has D (.int .i64 (stOf M m)) = true → FlR nn LL D U S y t D1 U1 → y ≠ 0 → WrR nn LL s M St n x D U S o y t D1 U1
  | after (m : Nat) (t : Stt) (D1 U1 : Set0) (y : Int) (e : Stt) (D' U' : Set0) : n = (m : Int) → m < St * (M - 1) → S.off = false → Maps.has D (.int .i64 (stOf M m)) = true → FlR nn LL D U S 0 t D1 U1 → WrT nn LL s M (2 + 2 * LL + stOf M m) (stOf M m) (meOf M m) (plOf M m) (paOf M m) x D1 U1 t y e D' U' → WrR nn LL s M St n x D U S o y e D' U'
  | first (m : Nat) (y : Int) (e : Stt) (D' U' : Set0) : n = (m : Int) → m < St * (M - 1) → S.off = false → Maps.has D (.int .i64 (stOf M m)) = false → WrT nn LL s M (2 + 2 * LL + stOf M m) (stOf M m) (meOf M m) (plOf M m) (paOf M m) x D U ⟨S, o⟩ y e D' U' → WrR nn LL s M St n x D U S o y e D' U'
section
variable {J : Vk} {w w' : World} {s : Go.Proofs.YtplbgjjacomceaaGreatDoor.S.Sup} {o : Nat → Int} {S : Sh.Sf} {F : Nat → Prop} {D U : Set0} {M St : Nat}
def WrQ (J : Vk) (w : World) (s : Go.Proofs.YtplbgjjacomceaaGreatDoor.S.Sup) (o : Nat → Int) (S : Sh.Sf) (F : Nat → Prop) (D U : Set0) (M St : Nat) (n : Int) (x : Sh.Bs) (y : Int) (w' : World) : Prop :=
  ∃ e D' U', WrR J.n J.L s M St n x D U S o y e D' U' ∧ RGoes J w w' s e.o e.S F D' U'
/-- What stays while it is looked whether a stripe is open. -/
def S10 (J : Vk) (q st : Nat) (D : Set0) (W' : World) : Prop := W'.cell? ⟨J.v, 11, none⟩ = some (.map (some J.mo)) ∧ W'.cell? ⟨q, 0, none⟩ = some (.int .i64 st) ∧ SetIs W' 3 J.mo D
theorem s10_alloc {J : Vk} {q st : Nat} {D : Set0} {w : World} {o : Obj} (h : S10 J q st D w) : S10 J q st D (w.alloc o) := by
  obtain ⟨h1, h2, h3⟩ := h
  have hb : Below w.heap.size w (w.alloc o) := (Below.refl _ _).alloc (Nat.le_refl _) _
  have hlt : ∀ {p : Addr} {v : Value}, w.cell? p = some v → p.block < w.heap.size := fun {p v} e => by
    false_or_by_contra
    rename_i hn
    unfold World.cell? at e
    rw [Array.getElem?_eq_none (Nat.le_of_not_lt hn)] at e
    simp at e
  exact ⟨(hb.cell (hlt h1)).trans h1, (hb.cell (hlt h2)).trans h2, h3.alloc o⟩
theorem look_set {w : World} {b : Nat} {D : Set0} (h : SetIs w 3 b D) {key : Value} {kl : Lit} (hkey : keyOf Tryz.prog 3 key = some kl) : (Instr.lookup 87 (.map (some b)) key true).run Tryz.prog w = .ok (.tuple #[.agg #[], .bool (Maps.has D kl)]) w := by
  obtain ⟨v, ps, hrun, hv⟩ := h.look_ok lawInt2 Tryz.underlying87 (unit_zero w) unitElem_mk hkey
  obtain ⟨rfl, _⟩ := unitElem_inv hv
  exact hrun
theorem int_key (st : Nat) (h : st < 1024) : keyOf Tryz.prog 3 (.int .i64 st) = some (.int .i64 st) := key_int st (by omega)
set_option maxRecDepth 20000 in
set_option maxHeartbeats 8000000 in
theorem vWrite_any (h : Vr J w s o S F D U) (hf : Fits J.n J.L s M St S) (hT : Tabs J.W) (hTB : max 1 2 + 1 ≤ J.B) (hFl : Flds J.W) (hFB : 4 + 1 ≤ J.B) (n : Int)
    {A : Option Addr} {c mm : Nat} {x : Sh.Bs} (hx : Sh.Sec x) (hA : Sh.Beside w (AllV J F) A x) (hL : ∀ x ∈ S.disks, x.waits.length ≤ mm) (hD : Maps.size D ≤ mm) (hU : Maps.size U ≤ mm) (hmm : mm ≤ 500000000) :
    Calls Tryz.prog 27 #[.pointer (some ⟨J.v, 0, none⟩), .int .i64 n, .slice A 128 c] w fun e w' => ∃ y : Int, e = .returned (.int .i64 y) ∧ WrQ J w s o S F D U M St n x y w' := by
  have HHB := Lib.hid (vhas h hf n)
  have h17 : J.n ≤ 17 := by
    obtain ⟨D0, gs, q⟩ := h.vo.ds.on.shelf
    have := q.most
    have := hf.len
    omega
  have hL8 := hf.l2
  have HH := Lib.hid (And.intro h (And.intro hf (And.intro hA (And.intro hL (And.intro hD hU)))))
  have HRF := Lib.hid (fun (w1 : World) (b : Below w.heap.size w w1) => vrefusal (h.grown b) (hasB M St n))
  have HYY : Hid (∀ y, y = refY S (hasB M St n) → refY S (hasB M St n) = y) := Lib.hid fun _ h => h.symm
  generalize hry : refY S (hasB M St n) = ry at *
  have HRY := Lib.hid hry
  have hbn : Hid (ry = 0 → ∃ m : Nat, n = (m : Int) ∧ m < St * (M - 1) ∧ S.off = false) := Lib.hid (by
    intro e
    rw [e] at hry
    unfold refY hasB at hry
    by_cases hb : 0 ≤ n ∧ n < ((St * (M - 1) : Nat) : Int)
    · rw [decide_eq_true hb, if_pos rfl] at hry
      refine ⟨n.toNat, by omega, by omega, ?_⟩
      cases ho : S.off
      · rfl
      · rw [ho] at hry; cases hry
    · rw [decide_eq_false hb, if_neg (by decide)] at hry
      cases hry)
  clear h hf hA hL hD hU hry HYY
  go_enter Tryz.func27, Tryz.ntmps27
  generalize hhb : hasB M St n = bb at *
  go_wp2_with fail
  refine HHB.out.mono ?_
  rintro e w1 ⟨rfl, hb1⟩
  have HB1 := Lib.hid hb1
  have HR1 := Lib.hid (HRF.out w1 hb1)
  clear HHB hb1 HRF
  have HBB := Lib.hid hhb
  clear hhb
  have hno : Hid (ry ≠ 0 → ∀ w2, RGoes J w w2 s o S F D U → WrQ J w s o S F D U M St n x ry w2) := Lib.hid fun h w2 hG => by
    have e : refY S (hasB M St n) = ry := by rw [HBB.out]; exact HRY.out
    refine ⟨⟨S, o⟩, D, U, ?_, hG⟩
    have := WrR.refused (nn := J.n) (LL := J.L) (s := s) (M := M) (St := St) (n := n) (x := x) (D := D) (U := U) (S := S) (o := o) (by rw [e]; exact h)
    rw [e] at this
    exact this
  have hG0 := Lib.hid (RGoes.here HH.out.1 HB1.out)
  cases bb
  · obtain rfl : ry = 1 := HRY.out.symm
    go_wp2_with fail
    refine HR1.out.mono ?_
    rintro e w' ⟨rfl, rfl⟩
    clear HR1
    go_wp2
    go_ret
    exact ⟨1, rfl, hno.out (by decide) _ hG0.out⟩
  · go_wp2_with fail
    refine HR1.out.mono ?_
    rintro e w' ⟨rfl, rfl⟩
    clear HR1
    by_cases h0 : ry = 0
    · subst h0
      obtain ⟨m, rfl, hm, hoff⟩ := hbn.out rfl
      obtain ⟨h, hf, hA, hL, hD, hU⟩ := HH.out
      have V1 := h.grown HB1.out
      have c2 := cell_of_row _ _ 2 _ _ _ V1.vo.vol.root
      simp only [List.getElem?_toArray, List.getElem?_cons_zero, List.getElem?_cons_succ, hf.mem] at c2
      have hM15 : St * (M - 1) ≤ 1024 * 15 := Nat.mul_le_mul hf.s2 (by have := hf.m16; omega)
      have hM3 := hf.m3
      have hM16 := hf.m16
      have HMP := Lib.hid (fun w => L.map_ok M m w hM3 hM16 (by omega))
      rw [spot_is] at HMP
      have hstM : stOf M m < St := by unfold stOf; exact (Nat.div_lt_iff_lt_mul (by omega)).2 hm
      have hst2 : stOf M m < 1024 := by have := hf.s2; omega
      have HPA := Lib.hid (fun w => L.parity_ok M (stOf M m) w hM3 hM16 (by omega))
      have hpl : plOf M m < 15 := by unfold plOf; have := Nat.mod_lt m (show 0 < M - 1 by omega); omega
      have hpaM : paOf M m < M := L.par_lt M _ (by omega)
      have hmeM : meOf M m < M := L.memAt_lt M _ _ (by omega)
      have HPE : Hid (L.par M (stOf M m) = paOf M m) := Lib.hid rfl
      rw [HPE.out] at HPA
      have HMM := Lib.hid hm
      have HOF := Lib.hid hoff
      generalize hst : stOf M m = st at *
      generalize hplE : plOf M m = pl at *
      generalize hpaE : paOf M m = pa at *
      generalize hmeE : meOf M m = me at *
      have HEQ := Lib.hid (And.intro hst (And.intro hplE (And.intro hpaE hmeE)))
      unfold spotV at HMP
      clear h hf hA hL hD hU V1 hm hoff hst hplE hpaE hmeE hM15 HPE
      go_wp2_with fail
      refine (HMP.out _).mono ?_
      rintro e w2 ⟨rfl, hb2⟩
      have hbx : Below w.heap.size w w2 := HB1.out.trans (hb2.mono HB1.out.size)
      have hb3 : Below w2.heap.size w2 (w2.alloc (.cells #[.int .i64 st, .int .i64 me, .int .i64 pl] 93)) := (Below.refl _ _).alloc (Nat.le_refl _) _
      have V3 := (HH.out.1.grown hbx).grown hb3
      have q3 := heap_alloc_new w2 (.cells #[.int .i64 st, .int .i64 me, .int .i64 pl] 93)
      have hn3 : ¬ AllV J F w2.heap.size := fun e => Nat.lt_irrefl _ ((HH.out.1.grown hbx).lt _ e)
      have c2b := cell_of_row _ _ 2 _ _ _ V3.vo.vol.root
      simp only [List.getElem?_toArray, List.getElem?_cons_zero, List.getElem?_cons_succ, HH.out.2.1.mem] at c2b
      have k0 := (cells3_of q3).1
      have HK3 := Lib.hid (And.intro V3 (And.intro q3 (And.intro hn3 (hbx.trans (hb3.mono hbx.size)))))
      clear hb2 hbx hb3 V3 q3 hn3 c2 HMP
      go_wp2_with fail
      generalize w2.alloc (.cells #[.int .i64 st, .int .i64 me, .int .i64 pl] 93) = w3 at *
      generalize w2.heap.size = qq at *
      go_quiet ((go_at_call 64; exact Calls.quiet_of_same ((HPA.out _).mono (fun _ _ h => ⟨h.1, h.2.symm⟩))))
      have hb3d := drew_n w3 nq
      have V3d := HK3.out.1.grown hb3d
      have q3d := (hb3d.block _ (lt_of_block HK3.out.2.1)).trans HK3.out.2.1
      have HK4 := Lib.hid (And.intro V3d (And.intro q3d (HK3.out.2.2.2.trans (hb3d.mono HK3.out.2.2.2.size))))
      have hkey := int_key st hst2
      have hS10 : S10 J qq st D (w3.drewN nq).drew := ⟨cell_of_row _ _ 11 _ _ _ V3d.vo.vol.root, (cells3_of q3d).1, V3d.opens⟩
      have j11 := fun (W' : World) (h : S10 J qq st D W') => h.1
      have jq0 := fun (W' : World) (h : S10 J qq st D W') => h.2.1
      have jlk := fun (W' : World) (h : S10 J qq st D W') => look_set h.2.2 hkey
      clear hb3d V3d q3d c2b k0
      go_wp2_with fail
      generalize w3.drewN nq = w4 at *
      refine wp_region_held_drew (S := S10 J qq st D) (by kernel_rfl) hS10 (fun hHeld => ?_)
      refine wpAnyH_take (i := 0) (oi := ⟨some 57, _, _, _, _, _⟩) (v := ?_) rfl (by kernel_rfl) (by kernel_rfl) (by kernel_rfl) (fun _ _ _ h => h) (Or.inl ⟨by rfl, ?_⟩) (by assumption) ?_
      rotate_left
      · (intro w hSw; (try dsimp only at hSw); go_simp; first | done | with_reducible rfl)
      try simp only [Act.put, List.setIfInBounds_toArray, List.set_cons_zero, List.set_cons_succ]
      refine wpAnyH_take (i := 1) (oi := ⟨some 58, _, _, _, _, _⟩) (v := ?_) rfl (by kernel_rfl) (by kernel_rfl) (by kernel_rfl) (fun _ _ _ h => h) (Or.inl ⟨by rfl, ?_⟩) (by assumption) ?_
      rotate_left
      · (intro w hSw; (try dsimp only at hSw); go_simp; first | done | with_reducible rfl)
      try simp only [Act.put, List.setIfInBounds_toArray, List.set_cons_zero, List.set_cons_succ]
      refine wpAnyH_take (i := 2) (oi := ⟨some 59, _, _, _, _, _⟩) (v := ?_) rfl (by kernel_rfl) (by kernel_rfl) (by kernel_rfl) (fun _ _ _ h => h) (Or.inl ⟨by rfl, ?_⟩) (by assumption) ?_
      rotate_left
      · (intro w hSw; (try dsimp only at hSw); go_simp; first | done | with_reducible rfl)
      try simp only [Act.put, List.setIfInBounds_toArray, List.set_cons_zero, List.set_cons_succ]
      refine wpAnyH_take (i := 3) (oi := ⟨some 60, _, _, _, _, _⟩) (v := ?_) rfl (by kernel_rfl) (by kernel_rfl) (by kernel_rfl) (fun _ _ _ h => h) (Or.inl ⟨by rfl, ?_⟩) (by assumption) ?_
      rotate_left
      · (intro w hSw; (try dsimp only at hSw); go_simp; first | done | with_reducible rfl)
      try simp only [Act.put, List.setIfInBounds_toArray, List.set_cons_zero, List.set_cons_succ]
      refine wpAnyH_take (i := 4) (oi := ⟨some 61, _, _, _, _, _⟩) (v := ?_) rfl (by kernel_rfl) (by kernel_rfl) (by kernel_rfl) (fun _ _ _ h => h) (Or.inl ⟨by rfl, ?_⟩) (by assumption) ?_
      rotate_left
      · (intro w hSw; (try dsimp only at hSw); go_simp; first | done | with_reducible rfl)
      try simp only [Act.put, List.setIfInBounds_toArray, List.set_cons_zero, List.set_cons_succ]
      refine wpAnyH_take (i := 5) (oi := ⟨some 62, _, _, _, _, _⟩) (v := ?_) rfl (by kernel_rfl) (by kernel_rfl) (by kernel_rfl) (fun _ _ _ h => h) (Or.inl ⟨by rfl, ?_⟩) (by assumption) ?_
      rotate_left
      · (intro w hSw; (try dsimp only at hSw); go_simp; first | done | with_reducible rfl)
      try simp only [Act.put, List.setIfInBounds_toArray, List.set_cons_zero, List.set_cons_succ]
      refine wpAnyH_take (i := 6) (oi := ⟨some 63, _, _, _, _, _⟩) (v := ?_) rfl (by kernel_rfl) (by kernel_rfl) (by kernel_rfl) (fun _ _ _ h => h) (Or.inl ⟨by rfl, ?_⟩) (by assumption) ?_
      rotate_left
      · (intro w hSw; (try dsimp only at hSw); go_simp; first | done | with_reducible rfl)
      try simp only [Act.put, List.setIfInBounds_toArray, List.set_cons_zero, List.set_cons_succ]
      refine wpAnyH_take (i := 7) (oi := ⟨some 56, _, _, _, _, _⟩) (v := ?_) rfl (by kernel_rfl) (by kernel_rfl) (by kernel_rfl) (fun _ _ _ h => h) (Or.inl ⟨by rfl, ?_⟩) (by assumption) ?_
      rotate_left
      · (intro w hSw; (try dsimp only at hSw); go_simp; first | done | with_reducible rfl)
      try simp only [Act.put, List.setIfInBounds_toArray, List.set_cons_zero, List.set_cons_succ]
      refine wpAnyH_take (i := 8) (oi := ⟨some 64, _, _, _, _, _⟩) (v := ?_) rfl (by kernel_rfl) (by kernel_rfl) (by kernel_rfl) (fun _ _ _ h => h) (Or.inl ⟨by rfl, ?_⟩) (by assumption) ?_
      rotate_left
      · (intro w hSw; (try dsimp only at hSw); go_simp; first | done | with_reducible rfl)
      try simp only [Act.put, List.setIfInBounds_toArray, List.set_cons_zero, List.set_cons_succ]
      refine wpAnyH_take (i := 9) (oi := ⟨some 65, _, _, _, _, _⟩) (v := ?_) rfl (by kernel_rfl) (by kernel_rfl) (by kernel_rfl) (fun _ _ _ h => h) (Or.inl ⟨by rfl, ?_⟩) (by assumption) ?_
      rotate_left
      · (intro w hSw; (try dsimp only at hSw); go_simp; first | done | with_reducible rfl)
      try simp only [Act.put, List.setIfInBounds_toArray, List.set_cons_zero, List.set_cons_succ]
      refine wpAnyH_ready (rs := [10]) (by kernel_rfl) (by simp) ?_
      refine AllReadyH.cons (o := ⟨some 11, _, _, _, _, _⟩) rfl (fun K hK => ?_) AllReadyH.nil
      rw [if_pos (by rfl)]
      go_simp
      refine hK.out _ _ (s10_alloc hHeld) (fun hHeld => ?_)
      clear hK K
      try simp only [Act.put, List.setIfInBounds_toArray, List.set_cons_zero, List.set_cons_succ]
      refine wpAnyH_ready (rs := [11]) (by kernel_rfl) (by simp) ?_
      refine AllReadyH.cons (o := ⟨none, _, _, _, _, _⟩) rfl (fun K hK => ?_) AllReadyH.nil
      rw [if_pos (by rfl)]
      go_simp
      refine hK.out _ _ (hHeld) (fun hHeld => ?_)
      clear hK K
      try simp only [Act.put, List.setIfInBounds_toArray, List.set_cons_zero, List.set_cons_succ]
      refine wpAnyH_take (i := 12) (oi := ⟨some 12, _, _, _, _, _⟩) (v := ?_) rfl (by kernel_rfl) (by kernel_rfl) (by kernel_rfl) (fun _ _ _ h => h) (Or.inl ⟨by rfl, ?_⟩) (by assumption) ?_
      rotate_left
      · (intro w hSw; (try dsimp only at hSw); go_simp; first | done | with_reducible rfl)
      try simp only [Act.put, List.setIfInBounds_toArray, List.set_cons_zero, List.set_cons_succ]
      refine wpAnyH_done (by kernel_rfl) ?_ _
      clear j11 jq0 jlk
      have HK5 : Hid (Vr J (w4.alloc (.cells #[] 105)).drew s o S F D U ∧ (w4.alloc (.cells #[] 105)).drew.heap[qq]? = some (.cells #[.int .i64 st, .int .i64 me, .int .i64 pl] 93 (0, 0)) ∧ Below w.heap.size w (w4.alloc (.cells #[] 105)).drew) := Lib.hid (by
        obtain ⟨V4, q4, hb4⟩ := HK4.out
        have hb5 : Below w4.heap.size w4 (w4.alloc (.cells #[] 105)).drew := ((Below.refl _ w4).alloc (Nat.le_refl _) _).trans ((drew_below _).mono (by simp))
        exact ⟨V4.grown hb5, (hb5.block _ (lt_of_block q4)).trans q4, hb4.trans (hb5.mono hb4.size)⟩)
      have HN5 := Lib.hid HK3.out.2.2.1
      clear HK3 HK4 hHeld hS10
      cases hh : Maps.has D (.int .i64 (st : Int))
      · have HFIN : Hid (∀ y e D' U', WrT J.n J.L s M (2 + 2 * J.L + st) st me pl pa x D U ⟨S, o⟩ y e D' U' → WrR J.n J.L s M St (m : Int) x D U S o y e D' U') := Lib.hid fun y e D' U' ht => by
          obtain ⟨e1, e2, e3, e4⟩ := HEQ.out
          exact .first m y e D' U' rfl HMM.out HOF.out (by rw [e1]; exact hh) (by rw [e1, e2, e3, e4]; exact ht)
        have HV6 := Lib.hid (And.intro HK5.out.1 (And.intro (moves_grown (G := AllV J F) HK5.out.2.2) (And.intro HK5.out.2.1 (And.intro HN5.out (And.intro HH.out.2.1 (And.intro (show ∀ x ∈ S.disks, x.waits.length ≤ mm + 408 from fun x hx => Nat.le_trans (HH.out.2.2.2.1 x hx) (Nat.le_add_right _ _)) (And.intro HH.out.2.2.2.2.1 HH.out.2.2.2.2.2)))))))
        have HTO := Lib.hid (show (Stt.mk S o).S = S ∧ (Stt.mk S o).o = o from ⟨rfl, rfl⟩)
        clear HK5 HN5
        go_wp2_with fail
        generalize (w4.alloc (.cells #[] 105)).drew = w6 at *
        have HDA := Lib.hid (HV6.out.2.2.2.2.1.num_lt st hmeM)
        have HDP := Lib.hid (HV6.out.2.2.2.2.1.num_lt st hpaM)
        have HLD := Lib.hid HV6.out.2.2.2.2.1.len
        have HD1 := Lib.hid (fun (W' : World) (hb : Below w6.heap.size w6 W') => diskOf_ok (HV6.out.1.grown hb).vo.vol HV6.out.2.2.2.2.1.mem st me HDA.out)
        have HD2 := Lib.hid (fun (W' : World) (hb : Below w6.heap.size w6 W') => diskOf_ok (HV6.out.1.grown hb).vo.vol HV6.out.2.2.2.2.1.mem st pa HDP.out)
        have HE1 := Lib.hid (fun (W' : World) (hb : Below w6.heap.size w6 W') => dead_dev ((HV6.out.1.grown hb).dv HDA.out) (by rw [HLD.out]; exact HDA.out))
        have HE2 := Lib.hid (fun (W' : World) (hb : Below w6.heap.size w6 W') => dead_dev ((HV6.out.1.grown hb).dv HDP.out) (by rw [HLD.out]; exact HDP.out))
        have j0 := fun (W' : World) (hb : Below w6.heap.size w6 W') => (hb.cell (p := ⟨qq, 0, none⟩) (lt_of_block HV6.out.2.2.1)).trans (cells3_of HV6.out.2.2.1).1
        have j1 := fun (W' : World) (hb : Below w6.heap.size w6 W') => (hb.cell (p := ⟨qq, 1, none⟩) (lt_of_block HV6.out.2.2.1)).trans (cells3_of HV6.out.2.2.1).2.1
        have hfd := field_disk
        refine wp_region_held_drew (S := fun W' => Below w6.heap.size w6 W') (by kernel_rfl) (drew_below w6) (fun hHeld => ?_)
        refine wpAnyH_take (i := 0) (oi := ⟨some 72, _, _, _, _, _⟩) (v := ?_) rfl (by kernel_rfl) (by kernel_rfl) (by kernel_rfl) (fun _ _ _ h => h) (Or.inl ⟨by rfl, ?_⟩) (by assumption) ?_
        rotate_left
        · (intro w hSw; (try dsimp only at hSw); go_simp; first | done | with_reducible rfl)
        try simp only [Act.put, List.setIfInBounds_toArray, List.set_cons_zero, List.set_cons_succ]
        refine wpAnyH_take (i := 1) (oi := ⟨some 73, _, _, _, _, _⟩) (v := ?_) rfl (by kernel_rfl) (by kernel_rfl) (by kernel_rfl) (fun _ _ _ h => h) (Or.inl ⟨by rfl, ?_⟩) (by assumption) ?_
        rotate_left
        · (intro w hSw; (try dsimp only at hSw); go_simp; first | done | with_reducible rfl)
        try simp only [Act.put, List.setIfInBounds_toArray, List.set_cons_zero, List.set_cons_succ]
        refine wpAnyH_take (i := 2) (oi := ⟨some 74, _, _, _, _, _⟩) (v := ?_) rfl (by kernel_rfl) (by kernel_rfl) (by kernel_rfl) (fun _ _ _ h => h) (Or.inl ⟨by rfl, ?_⟩) (by assumption) ?_
        rotate_left
        · (intro w hSw; (try dsimp only at hSw); go_simp; first | done | with_reducible rfl)
        try simp only [Act.put, List.setIfInBounds_toArray, List.set_cons_zero, List.set_cons_succ]
        refine wpAnyH_take (i := 3) (oi := ⟨some 75, _, _, _, _, _⟩) (v := ?_) rfl (by kernel_rfl) (by kernel_rfl) (by kernel_rfl) (fun _ _ _ h => h) (Or.inl ⟨by rfl, ?_⟩) (by assumption) ?_
        rotate_left
        · (intro w hSw; (try dsimp only at hSw); go_simp; first | done | with_reducible rfl)
        try simp only [Act.put, List.setIfInBounds_toArray, List.set_cons_zero, List.set_cons_succ]
        refine wpAnyH_take (i := 4) (oi := ⟨some 76, _, _, _, _, _⟩) (v := ?_) rfl (by kernel_rfl) (by kernel_rfl) (by kernel_rfl) (fun _ _ _ h => h) (Or.inl ⟨by rfl, ?_⟩) (by assumption) ?_
        rotate_left
        · (intro w hSw; (try dsimp only at hSw); go_simp; first | done | with_reducible rfl)
        try simp only [Act.put, List.setIfInBounds_toArray, List.set_cons_zero, List.set_cons_succ]
        refine wpAnyH_take (i := 8) (oi := ⟨some 80, _, _, _, _, _⟩) (v := ?_) rfl (by kernel_rfl) (by kernel_rfl) (by kernel_rfl) (fun _ _ _ h => h) (Or.inl ⟨by rfl, ?_⟩) (by assumption) ?_
        rotate_left
        · (intro w hSw; (try dsimp only at hSw); go_simp; first | done | with_reducible rfl)
        try simp only [Act.put, List.setIfInBounds_toArray, List.set_cons_zero, List.set_cons_succ]
        refine wpAnyH_take (i := 9) (oi := ⟨some 81, _, _, _, _, _⟩) (v := ?_) rfl (by kernel_rfl) (by kernel_rfl) (by kernel_rfl) (fun _ _ _ h => h) (Or.inl ⟨by rfl, ?_⟩) (by assumption) ?_
        rotate_left
        · (intro w hSw; (try dsimp only at hSw); go_simp; first | done | with_reducible rfl)
        try simp only [Act.put, List.setIfInBounds_toArray, List.set_cons_zero, List.set_cons_succ]
        refine wpAnyH_take (i := 10) (oi := ⟨some 82, _, _, _, _, _⟩) (v := ?_) rfl (by kernel_rfl) (by kernel_rfl) (by kernel_rfl) (fun _ _ _ h => h) (Or.inl ⟨by rfl, ?_⟩) (by assumption) ?_
        rotate_left
        · (intro w hSw; (try dsimp only at hSw); go_simp; first | done | with_reducible rfl)
        try simp only [Act.put, List.setIfInBounds_toArray, List.set_cons_zero, List.set_cons_succ]
        refine wpAnyH_take (i := 11) (oi := ⟨some 83, _, _, _, _, _⟩) (v := ?_) rfl (by kernel_rfl) (by kernel_rfl) (by kernel_rfl) (fun _ _ _ h => h) (Or.inl ⟨by rfl, ?_⟩) (by assumption) ?_
        rotate_left
        · (intro w hSw; (try dsimp only at hSw); go_simp; first | done | with_reducible rfl)
        try simp only [Act.put, List.setIfInBounds_toArray, List.set_cons_zero, List.set_cons_succ]
        refine wpAnyH_ready (rs := [5]) (by kernel_rfl) (by simp) ?_
        refine AllReadyH.cons (o := ⟨some 77, _, _, _, _, _⟩) rfl (fun K hK => ?_) AllReadyH.nil
        go_simp
        refine (HD1.out _ hHeld).mono ?_
        rintro e w7 ⟨rfl, hb7⟩
        refine hK.out _ _ (hHeld.trans (hb7.mono hHeld.size)) (fun hHeld => ?_)
        clear hK K
        try simp only [Act.put, List.setIfInBounds_toArray, List.set_cons_zero, List.set_cons_succ]
        refine wpAnyH_take (i := 6) (oi := ⟨some 78, _, _, _, _, _⟩) (v := ?_) rfl (by kernel_rfl) (by kernel_rfl) (by kernel_rfl) (fun _ _ _ h => h) (Or.inl ⟨by rfl, ?_⟩) (by assumption) ?_
        rotate_left
        · (intro w hSw; (try dsimp only at hSw); go_simp; first | done | with_reducible rfl)
        try simp only [Act.put, List.setIfInBounds_toArray, List.set_cons_zero, List.set_cons_succ]
        refine wpAnyH_ready (rs := [7]) (by kernel_rfl) (by simp) ?_
        refine AllReadyH.cons (o := ⟨some 79, _, _, _, _, _⟩) rfl (fun K hK => ?_) AllReadyH.nil
        go_simp
        refine (HE1.out _ hHeld).mono ?_
        rintro e w8 ⟨rfl, hb8⟩
        refine hK.out _ _ (hHeld.trans (hb8.mono hHeld.size)) (fun hHeld => ?_)
        clear hK K
        try simp only [Act.put, List.setIfInBounds_toArray, List.set_cons_zero, List.set_cons_succ]
        refine wpAnyH_ready (rs := [12]) (by kernel_rfl) (by simp) ?_
        refine AllReadyH.cons (o := ⟨some 84, _, _, _, _, _⟩) rfl (fun K hK => ?_) AllReadyH.nil
        go_simp
        refine (HD2.out _ hHeld).mono ?_
        rintro e w9 ⟨rfl, hb9⟩
        refine hK.out _ _ (hHeld.trans (hb9.mono hHeld.size)) (fun hHeld => ?_)
        clear hK K
        try simp only [Act.put, List.setIfInBounds_toArray, List.set_cons_zero, List.set_cons_succ]
        refine wpAnyH_take (i := 13) (oi := ⟨some 85, _, _, _, _, _⟩) (v := ?_) rfl (by kernel_rfl) (by kernel_rfl) (by kernel_rfl) (fun _ _ _ h => h) (Or.inl ⟨by rfl, ?_⟩) (by assumption) ?_
        rotate_left
        · (intro w hSw; (try dsimp only at hSw); go_simp; first | done | with_reducible rfl)
        try simp only [Act.put, List.setIfInBounds_toArray, List.set_cons_zero, List.set_cons_succ]
        refine wpAnyH_ready (rs := [14]) (by kernel_rfl) (by simp) ?_
        refine AllReadyH.cons (o := ⟨some 86, _, _, _, _, _⟩) rfl (fun K hK => ?_) AllReadyH.nil
        go_simp
        refine (HE2.out _ hHeld).mono ?_
        rintro e w10 ⟨rfl, hb10⟩
        refine hK.out _ _ (hHeld.trans (hb10.mono hHeld.size)) (fun hHeld => ?_)
        clear hK K
        try simp only [Act.put, List.setIfInBounds_toArray, List.set_cons_zero, List.set_cons_succ]
        refine wpAnyH_take (i := 15) (oi := ⟨some 14, _, _, _, _, _⟩) (v := ?_) rfl (by kernel_rfl) (by kernel_rfl) (by kernel_rfl) (fun _ _ _ h => h) (Or.inl ⟨by rfl, ?_⟩) (by assumption) ?_
        rotate_left
        · (intro w hSw; (try dsimp only at hSw); go_simp; first | done | with_reducible rfl)
        try simp only [Act.put, List.setIfInBounds_toArray, List.set_cons_zero, List.set_cons_succ]
        refine wpAnyH_take (i := 16) (oi := ⟨some 15, _, _, _, _, _⟩) (v := ?_) rfl (by kernel_rfl) (by kernel_rfl) (by kernel_rfl) (fun _ _ _ h => h) (Or.inl ⟨by rfl, ?_⟩) (by assumption) ?_
        rotate_left
        · (intro w hSw; (try dsimp only at hSw); go_simp; first | done | with_reducible rfl)
        try simp only [Act.put, List.setIfInBounds_toArray, List.set_cons_zero, List.set_cons_succ]
        refine wpAnyH_done (by kernel_rfl) ?_ _
        have HV7 : Hid (Vr J w10 s (Stt.mk S o).o (Stt.mk S o).S F D U ∧ Sh.Moves (AllV J F) w (AllV J F) w10 ∧ w10.heap[qq]? = some (.cells #[.int .i64 st, .int .i64 me, .int .i64 pl] 93 (0, 0))) := Lib.hid ⟨HV6.out.1.grown hHeld, HV6.out.2.1.trans (moves_grown hHeld), (hHeld.block _ (lt_of_block HV6.out.2.2.1)).trans HV6.out.2.2.1⟩
        have HA7 := Lib.hid (HH.out.2.2.1.moves HV7.out.2.1)
        clear HD1 HD2 HE1 HE2 j0 j1 hfd hHeld
        obtain ⟨k0, k1, k2, _⟩ := cells3_of HV7.out.2.2
        cases hda : (dk (Stt.mk S o).S (numOf s M st me)).dead
        · cases hdp : (dk (Stt.mk S o).S (numOf s M st pa)).dead
          · have HC := Lib.hid (writeBoth_any HV7.out.1 HV6.out.2.2.2.2.1 hT hTB hFl hFB st me pl pa hstM hmeM hpl hpaM (c := c) hx HA7.out HV6.out.2.2.2.2.2.1 (Nat.le_trans HV6.out.2.2.2.2.2.2.1 (Nat.le_add_right _ 408)) (Nat.le_trans HV6.out.2.2.2.2.2.2.2 (Nat.le_add_right _ 408)) (by omega))
            unfold spotV at HC
            have HX := Lib.hid (And.intro hda hdp)
            clear hda hdp
            go_wp2_with fail
            refine HC.out.mono ?_
            rintro e w11 ⟨y2, rfl, e2, D2, U2, hW, hG⟩
            have HR := Lib.hid (HFIN.out y2 e2 D2 U2 (.both y2 e2 D2 U2 HX.out.1 HX.out.2 hW))
            have HG := Lib.hid (RGoes.trans HV7.out.2.1 hG)
            clear hW hG k0 k1 k2 HC
            go_wp2
            go_ret
            exact ⟨y2, rfl, e2, D2, U2, HR.out, HG.out⟩
          · have HC := Lib.hid (change_any HV7.out.1 HV6.out.2.2.2.2.1 hT hTB st me hstM hmeM (c := c) hx HA7.out HV6.out.2.2.2.2.2.1 (Nat.le_trans HV6.out.2.2.2.2.2.2.1 (Nat.le_add_right _ 408)) (by omega))
            have HX := Lib.hid (And.intro hda hdp)
            clear hda hdp
            go_wp2_with fail
            refine HC.out.mono ?_
            rintro e w11 ⟨y2, rfl, x2, S2, hW, hG⟩
            have HR := Lib.hid (HFIN.out y2 _ _ _ (.data y2 x2 S2 HX.out.1 HX.out.2 hW))
            have HG := Lib.hid (RGoes.trans HV7.out.2.1 hG)
            clear hW hG k0 k1 k2 HC
            go_wp2
            go_ret
            exact ⟨y2, rfl, _, _, _, HR.out, HG.out⟩
        · cases hdp : (dk (Stt.mk S o).S (numOf s M st pa)).dead
          · have HC := Lib.hid (writeParity_any HV7.out.1 HV6.out.2.2.2.2.1 hT hTB st me pl pa hstM hpaM (c := c) hx HA7.out HV6.out.2.2.2.2.2.1 (Nat.le_trans HV6.out.2.2.2.2.2.2.1 (Nat.le_add_right _ 408)) (by omega))
            unfold spotV at HC
            have HX := Lib.hid (And.intro hda hdp)
            clear hda hdp
            go_wp2_with fail
            refine HC.out.mono ?_
            rintro e w11 ⟨y2, rfl, e2, D2, U2, hW, hG⟩
            have HR := Lib.hid (HFIN.out y2 e2 D2 U2 (.par y2 e2 D2 U2 HX.out.1 HX.out.2 hW))
            have HG := Lib.hid (RGoes.trans HV7.out.2.1 hG)
            clear hW hG k0 k1 k2 HC
            go_wp2
            go_ret
            exact ⟨y2, rfl, e2, D2, U2, HR.out, HG.out⟩
          · have HR := Lib.hid (HFIN.out 10 ⟨S, o⟩ D U (.io hda hdp))
            have HG := Lib.hid (RGoes.trans HV7.out.2.1 (RGoes.here HV7.out.1 (Below.refl _ _)))
            clear hda hdp
            go_wp2
            go_ret
            exact ⟨10, rfl, ⟨S, o⟩, D, U, HR.out, HG.out⟩
      · obtain ⟨V5, q5, hb5⟩ := HK5.out
        have HFL := Lib.hid (vFlush_any V5 HH.out.2.1 hT hTB HH.out.2.2.2.1 HH.out.2.2.2.2.2 (by omega))
        have HH2 := Lib.hid hh
        clear V5 q5 hb5
        go_wp2_with fail
        generalize (w4.alloc (.cells #[] 105)).drew = w5 at *
        refine HFL.out.mono ?_
        rintro e w6 ⟨y1, rfl, t, D6, U6, hFR, F6, V6, m6⟩
        clear HFL hh
        by_cases h1 : y1 = 0
        · subst h1
          have HFIN : Hid (∀ y e D' U', WrT J.n J.L s M (2 + 2 * J.L + st) st me pl pa x D6 U6 t y e D' U' → WrR J.n J.L s M St (m : Int) x D U S o y e D' U') := Lib.hid fun y e D' U' ht => by
            obtain ⟨e1, e2, e3, e4⟩ := HEQ.out
            exact .after m t D6 U6 y e D' U' rfl HMM.out HOF.out (by rw [e1]; exact HH2.out) hFR (by rw [e1, e2, e3, e4]; exact ht)
          have hsz := hFR.sets HH.out.2.2.2.2.1 HH.out.2.2.2.2.2
          have hq6 := beside_goes HK5.out.2.1 HN5.out m6
          have HV6 := Lib.hid (And.intro V6 (And.intro ((moves_grown (G := AllV J F) HK5.out.2.2).trans m6) (And.intro hq6.1 (And.intro hq6.2 (And.intro (HH.out.2.1.same hFR.len.1 hFR.len.2) (And.intro (hFR.waits h17 hL8 HH.out.2.2.2.1) hsz))))))
          clear hFR V6 m6 hsz hq6 HK5 HN5
          go_wp2_with fail
          have HDA := Lib.hid (HV6.out.2.2.2.2.1.num_lt st hmeM)
          have HDP := Lib.hid (HV6.out.2.2.2.2.1.num_lt st hpaM)
          have HLD := Lib.hid HV6.out.2.2.2.2.1.len
          have HD1 := Lib.hid (fun (W' : World) (hb : Below w6.heap.size w6 W') => diskOf_ok (HV6.out.1.grown hb).vo.vol HV6.out.2.2.2.2.1.mem st me HDA.out)
          have HD2 := Lib.hid (fun (W' : World) (hb : Below w6.heap.size w6 W') => diskOf_ok (HV6.out.1.grown hb).vo.vol HV6.out.2.2.2.2.1.mem st pa HDP.out)
          have HE1 := Lib.hid (fun (W' : World) (hb : Below w6.heap.size w6 W') => dead_dev ((HV6.out.1.grown hb).dv HDA.out) (by rw [HLD.out]; exact HDA.out))
          have HE2 := Lib.hid (fun (W' : World) (hb : Below w6.heap.size w6 W') => dead_dev ((HV6.out.1.grown hb).dv HDP.out) (by rw [HLD.out]; exact HDP.out))
          have j0 := fun (W' : World) (hb : Below w6.heap.size w6 W') => (hb.cell (p := ⟨qq, 0, none⟩) (lt_of_block HV6.out.2.2.1)).trans (cells3_of HV6.out.2.2.1).1
          have j1 := fun (W' : World) (hb : Below w6.heap.size w6 W') => (hb.cell (p := ⟨qq, 1, none⟩) (lt_of_block HV6.out.2.2.1)).trans (cells3_of HV6.out.2.2.1).2.1
          have hfd := field_disk
          refine wp_region_held_drew (S := fun W' => Below w6.heap.size w6 W') (by kernel_rfl) (drew_below w6) (fun hHeld => ?_)
          refine wpAnyH_take (i := 0) (oi := ⟨some 72, _, _, _, _, _⟩) (v := ?_) rfl (by kernel_rfl) (by kernel_rfl) (by kernel_rfl) (fun _ _ _ h => h) (Or.inl ⟨by rfl, ?_⟩) (by assumption) ?_
          rotate_left
          · (intro w hSw; (try dsimp only at hSw); go_simp; first | done | with_reducible rfl)
          try simp only [Act.put, List.setIfInBounds_toArray, List.set_cons_zero, List.set_cons_succ]
          refine wpAnyH_take (i := 1) (oi := ⟨some 73, _, _, _, _, _⟩) (v := ?_) rfl (by kernel_rfl) (by kernel_rfl) (by kernel_rfl) (fun _ _ _ h => h) (Or.inl ⟨by rfl, ?_⟩) (by assumption) ?_
          rotate_left
          · (intro w hSw; (try dsimp only at hSw); go_simp; first | done | with_reducible rfl)
          try simp only [Act.put, List.setIfInBounds_toArray, List.set_cons_zero, List.set_cons_succ]
          refine wpAnyH_take (i := 2) (oi := ⟨some 74, _, _, _, _, _⟩) (v := ?_) rfl (by kernel_rfl) (by kernel_rfl) (by kernel_rfl) (fun _ _ _ h => h) (Or.inl ⟨by rfl, ?_⟩) (by assumption) ?_
          rotate_left
          · (intro w hSw; (try dsimp only at hSw); go_simp; first | done | with_reducible rfl)
          try simp only [Act.put, List.setIfInBounds_toArray, List.set_cons_zero, List.set_cons_succ]
          refine wpAnyH_take (i := 3) (oi := ⟨some 75, _, _, _, _, _⟩) (v := ?_) rfl (by kernel_rfl) (by kernel_rfl) (by kernel_rfl) (fun _ _ _ h => h) (Or.inl ⟨by rfl, ?_⟩) (by assumption) ?_
          rotate_left
          · (intro w hSw; (try dsimp only at hSw); go_simp; first | done | with_reducible rfl)
          try simp only [Act.put, List.setIfInBounds_toArray, List.set_cons_zero, List.set_cons_succ]
          refine wpAnyH_take (i := 4) (oi := ⟨some 76, _, _, _, _, _⟩) (v := ?_) rfl (by kernel_rfl) (by kernel_rfl) (by kernel_rfl) (fun _ _ _ h => h) (Or.inl ⟨by rfl, ?_⟩) (by assumption) ?_
          rotate_left
          · (intro w hSw; (try dsimp only at hSw); go_simp; first | done | with_reducible rfl)
          try simp only [Act.put, List.setIfInBounds_toArray, List.set_cons_zero, List.set_cons_succ]
          refine wpAnyH_take (i := 8) (oi := ⟨some 80, _, _, _, _, _⟩) (v := ?_) rfl (by kernel_rfl) (by kernel_rfl) (by kernel_rfl) (fun _ _ _ h => h) (Or.inl ⟨by rfl, ?_⟩) (by assumption) ?_
          rotate_left
          · (intro w hSw; (try dsimp only at hSw); go_simp; first | done | with_reducible rfl)
          try simp only [Act.put, List.setIfInBounds_toArray, List.set_cons_zero, List.set_cons_succ]
          refine wpAnyH_take (i := 9) (oi := ⟨some 81, _, _, _, _, _⟩) (v := ?_) rfl (by kernel_rfl) (by kernel_rfl) (by kernel_rfl) (fun _ _ _ h => h) (Or.inl ⟨by rfl, ?_⟩) (by assumption) ?_
          rotate_left
          · (intro w hSw; (try dsimp only at hSw); go_simp; first | done | with_reducible rfl)
          try simp only [Act.put, List.setIfInBounds_toArray, List.set_cons_zero, List.set_cons_succ]
          refine wpAnyH_take (i := 10) (oi := ⟨some 82, _, _, _, _, _⟩) (v := ?_) rfl (by kernel_rfl) (by kernel_rfl) (by kernel_rfl) (fun _ _ _ h => h) (Or.inl ⟨by rfl, ?_⟩) (by assumption) ?_
          rotate_left
          · (intro w hSw; (try dsimp only at hSw); go_simp; first | done | with_reducible rfl)
          try simp only [Act.put, List.setIfInBounds_toArray, List.set_cons_zero, List.set_cons_succ]
          refine wpAnyH_take (i := 11) (oi := ⟨some 83, _, _, _, _, _⟩) (v := ?_) rfl (by kernel_rfl) (by kernel_rfl) (by kernel_rfl) (fun _ _ _ h => h) (Or.inl ⟨by rfl, ?_⟩) (by assumption) ?_
          rotate_left
          · (intro w hSw; (try dsimp only at hSw); go_simp; first | done | with_reducible rfl)
          try simp only [Act.put, List.setIfInBounds_toArray, List.set_cons_zero, List.set_cons_succ]
          refine wpAnyH_ready (rs := [5]) (by kernel_rfl) (by simp) ?_
          refine AllReadyH.cons (o := ⟨some 77, _, _, _, _, _⟩) rfl (fun K hK => ?_) AllReadyH.nil
          go_simp
          refine (HD1.out _ hHeld).mono ?_
          rintro e w7 ⟨rfl, hb7⟩
          refine hK.out _ _ (hHeld.trans (hb7.mono hHeld.size)) (fun hHeld => ?_)
          clear hK K
          try simp only [Act.put, List.setIfInBounds_toArray, List.set_cons_zero, List.set_cons_succ]
          refine wpAnyH_take (i := 6) (oi := ⟨some 78, _, _, _, _, _⟩) (v := ?_) rfl (by kernel_rfl) (by kernel_rfl) (by kernel_rfl) (fun _ _ _ h => h) (Or.inl ⟨by rfl, ?_⟩) (by assumption) ?_
          rotate_left
          · (intro w hSw; (try dsimp only at hSw); go_simp; first | done | with_reducible rfl)
          try simp only [Act.put, List.setIfInBounds_toArray, List.set_cons_zero, List.set_cons_succ]
          refine wpAnyH_ready (rs := [7]) (by kernel_rfl) (by simp) ?_
          refine AllReadyH.cons (o := ⟨some 79, _, _, _, _, _⟩) rfl (fun K hK => ?_) AllReadyH.nil
          go_simp
          refine (HE1.out _ hHeld).mono ?_
          rintro e w8 ⟨rfl, hb8⟩
          refine hK.out _ _ (hHeld.trans (hb8.mono hHeld.size)) (fun hHeld => ?_)
          clear hK K
          try simp only [Act.put, List.setIfInBounds_toArray, List.set_cons_zero, List.set_cons_succ]
          refine wpAnyH_ready (rs := [12]) (by kernel_rfl) (by simp) ?_
          refine AllReadyH.cons (o := ⟨some 84, _, _, _, _, _⟩) rfl (fun K hK => ?_) AllReadyH.nil
          go_simp
          refine (HD2.out _ hHeld).mono ?_
          rintro e w9 ⟨rfl, hb9⟩
          refine hK.out _ _ (hHeld.trans (hb9.mono hHeld.size)) (fun hHeld => ?_)
          clear hK K
          try simp only [Act.put, List.setIfInBounds_toArray, List.set_cons_zero, List.set_cons_succ]
          refine wpAnyH_take (i := 13) (oi := ⟨some 85, _, _, _, _, _⟩) (v := ?_) rfl (by kernel_rfl) (by kernel_rfl) (by kernel_rfl) (fun _ _ _ h => h) (Or.inl ⟨by rfl, ?_⟩) (by assumption) ?_
          rotate_left
          · (intro w hSw; (try dsimp only at hSw); go_simp; first | done | with_reducible rfl)
          try simp only [Act.put, List.setIfInBounds_toArray, List.set_cons_zero, List.set_cons_succ]
          refine wpAnyH_ready (rs := [14]) (by kernel_rfl) (by simp) ?_
          refine AllReadyH.cons (o := ⟨some 86, _, _, _, _, _⟩) rfl (fun K hK => ?_) AllReadyH.nil
          go_simp
          refine (HE2.out _ hHeld).mono ?_
          rintro e w10 ⟨rfl, hb10⟩
          refine hK.out _ _ (hHeld.trans (hb10.mono hHeld.size)) (fun hHeld => ?_)
          clear hK K
          try simp only [Act.put, List.setIfInBounds_toArray, List.set_cons_zero, List.set_cons_succ]
          refine wpAnyH_take (i := 15) (oi := ⟨some 14, _, _, _, _, _⟩) (v := ?_) rfl (by kernel_rfl) (by kernel_rfl) (by kernel_rfl) (fun _ _ _ h => h) (Or.inl ⟨by rfl, ?_⟩) (by assumption) ?_
          rotate_left
          · (intro w hSw; (try dsimp only at hSw); go_simp; first | done | with_reducible rfl)
          try simp only [Act.put, List.setIfInBounds_toArray, List.set_cons_zero, List.set_cons_succ]
          refine wpAnyH_take (i := 16) (oi := ⟨some 15, _, _, _, _, _⟩) (v := ?_) rfl (by kernel_rfl) (by kernel_rfl) (by kernel_rfl) (fun _ _ _ h => h) (Or.inl ⟨by rfl, ?_⟩) (by assumption) ?_
          rotate_left
          · (intro w hSw; (try dsimp only at hSw); go_simp; first | done | with_reducible rfl)
          try simp only [Act.put, List.setIfInBounds_toArray, List.set_cons_zero, List.set_cons_succ]
          refine wpAnyH_done (by kernel_rfl) ?_ _
          have HV7 : Hid (Vr J w10 s t.o t.S F6 D6 U6 ∧ Sh.Moves (AllV J F) w (AllV J F6) w10 ∧ w10.heap[qq]? = some (.cells #[.int .i64 st, .int .i64 me, .int .i64 pl] 93 (0, 0))) := Lib.hid ⟨HV6.out.1.grown hHeld, HV6.out.2.1.trans (moves_grown hHeld), (hHeld.block _ (lt_of_block HV6.out.2.2.1)).trans HV6.out.2.2.1⟩
          have HA7 := Lib.hid (HH.out.2.2.1.moves HV7.out.2.1)
          clear HD1 HD2 HE1 HE2 j0 j1 hfd hHeld
          obtain ⟨k0, k1, k2, _⟩ := cells3_of HV7.out.2.2
          cases hda : (dk t.S (numOf s M st me)).dead
          · cases hdp : (dk t.S (numOf s M st pa)).dead
            · have HC := Lib.hid (writeBoth_any HV7.out.1 HV6.out.2.2.2.2.1 hT hTB hFl hFB st me pl pa hstM hmeM hpl hpaM (c := c) hx HA7.out HV6.out.2.2.2.2.2.1 (Nat.le_trans HV6.out.2.2.2.2.2.2.1 (Nat.le_add_right _ 408)) (Nat.le_trans HV6.out.2.2.2.2.2.2.2 (Nat.le_add_right _ 408)) (by omega))
              unfold spotV at HC
              have HX := Lib.hid (And.intro hda hdp)
              clear hda hdp
              go_wp2_with fail
              refine HC.out.mono ?_
              rintro e w11 ⟨y2, rfl, e2, D2, U2, hW, hG⟩
              have HR := Lib.hid (HFIN.out y2 e2 D2 U2 (.both y2 e2 D2 U2 HX.out.1 HX.out.2 hW))
              have HG := Lib.hid (RGoes.trans HV7.out.2.1 hG)
              clear hW hG k0 k1 k2 HC
              go_wp2
              go_ret
              exact ⟨y2, rfl, e2, D2, U2, HR.out, HG.out⟩
            · have HC := Lib.hid (change_any HV7.out.1 HV6.out.2.2.2.2.1 hT hTB st me hstM hmeM (c := c) hx HA7.out HV6.out.2.2.2.2.2.1 (Nat.le_trans HV6.out.2.2.2.2.2.2.1 (Nat.le_add_right _ 408)) (by omega))
              have HX := Lib.hid (And.intro hda hdp)
              clear hda hdp
              go_wp2_with fail
              refine HC.out.mono ?_
              rintro e w11 ⟨y2, rfl, x2, S2, hW, hG⟩
              have HR := Lib.hid (HFIN.out y2 _ _ _ (.data y2 x2 S2 HX.out.1 HX.out.2 hW))
              have HG := Lib.hid (RGoes.trans HV7.out.2.1 hG)
              clear hW hG k0 k1 k2 HC
              go_wp2
              go_ret
              exact ⟨y2, rfl, _, _, _, HR.out, HG.out⟩
          · cases hdp : (dk t.S (numOf s M st pa)).dead
            · have HC := Lib.hid (writeParity_any HV7.out.1 HV6.out.2.2.2.2.1 hT hTB st me pl pa hstM hpaM (c := c) hx HA7.out HV6.out.2.2.2.2.2.1 (Nat.le_trans HV6.out.2.2.2.2.2.2.1 (Nat.le_add_right _ 408)) (by omega))
              unfold spotV at HC
              have HX := Lib.hid (And.intro hda hdp)
              clear hda hdp
              go_wp2_with fail
              refine HC.out.mono ?_
              rintro e w11 ⟨y2, rfl, e2, D2, U2, hW, hG⟩
              have HR := Lib.hid (HFIN.out y2 e2 D2 U2 (.par y2 e2 D2 U2 HX.out.1 HX.out.2 hW))
              have HG := Lib.hid (RGoes.trans HV7.out.2.1 hG)
              clear hW hG k0 k1 k2 HC
              go_wp2
              go_ret
              exact ⟨y2, rfl, e2, D2, U2, HR.out, HG.out⟩
            · have HR := Lib.hid (HFIN.out 10 t D6 U6 (.io hda hdp))
              have HG := Lib.hid (RGoes.trans HV7.out.2.1 (RGoes.here HV7.out.1 (Below.refl _ _)))
              clear hda hdp
              go_wp2
              go_ret
              exact ⟨10, rfl, t, D6, U6, HR.out, HG.out⟩
        · have hq : (y1 != 0) = true := by simpa using h1
          have hq2 : (y1 == 0) = false := by simpa using h1
          have HG := Lib.hid (RGoes.trans (moves_grown (w := w) HK5.out.2.2) ⟨F6, V6, m6⟩)
          have HR : Hid (WrR J.n J.L s M St (m : Int) x D U S o y1 t D6 U6) := Lib.hid (by
            obtain ⟨e1, _, _, _⟩ := HEQ.out
            exact .flush m y1 t D6 U6 rfl HMM.out HOF.out (by rw [e1]; exact HH2.out) hFR h1)
          clear hFR V6 m6 h1
          go_wp2
          go_ret
          exact ⟨y1, rfl, t, D6, U6, HR.out, HG.out⟩
    · have hq : (ry != 0) = true := by simpa using h0
      have hq2 : (ry == 0) = false := by simpa using h0
      have H0 := Lib.hid h0
      clear h0
      go_wp2
      go_ret
      exact ⟨ry, rfl, hno.out H0.out _ hG0.out⟩
end
end Go.Proofs.YtplbgjjacomceaaGreatDoor.U
namespace Go.Proofs.YtplbgjjacomceaaGreatDoor.U
open Go.RowKit Go.Maps

/-- A member's block of a stripe, as the others and the parity tell it. -/
def shouldR (s : Go.Proofs.YtplbgjjacomceaaGreatDoor.S.Sup) (M k st me : Nat) (S : Sh.Sf) : Sh.Sf × Sh.Bs × Int := tog s M k st (tkNot me) (Looked S (numOf s M st me)) M
/-- What a Read of a block that there is tells and leaves, while the power is on. -/
inductive RdT (s : Go.Proofs.YtplbgjjacomceaaGreatDoor.S.Sup) (M k st me : Nat) (S : Sh.Sf) (o : Nat → Int) : Int → Sh.Bs → Stt → Prop
  | plain : ¬ (rdY S (numOf s M st me) k = 4 ∨ rdY S (numOf s M st me) k = 5) → RdT s M k st me S o (rdY S (numOf s M st me) k) (V S (numOf s M st me) (dataOf k)) ⟨Looked S (numOf s M st me), o⟩
  | lack : (rdY S (numOf s M st me) k = 4 ∨ rdY S (numOf s M st me) k = 5) → (shouldR s M k st me S).2.2 ≠ 0 → RdT s M k st me S o (shouldR s M k st me S).2.2 [] ⟨(shouldR s M k st me S).1, o⟩
  | dead : rdY S (numOf s M st me) k = 4 → (shouldR s M k st me S).2.2 = 0 → RdT s M k st me S o 0 (shouldR s M k st me S).2.1 ⟨(shouldR s M k st me S).1, o⟩
  | bad (z x : Int) (S2 : Sh.Sf) : rdY S (numOf s M st me) k = 5 → (shouldR s M k st me S).2.2 = 0 → DW (shouldR s M k st me S).1 (numOf s M st me) (o (numOf s M st me)) k (shouldR s M k st me S).2.1 z x S2 → z ≠ 0 → RdT s M k st me S o z [] ⟨S2, put1 o (numOf s M st me) x⟩
  | mend (x : Int) (S2 : Sh.Sf) : rdY S (numOf s M st me) k = 5 → (shouldR s M k st me S).2.2 = 0 → DW (shouldR s M k st me S).1 (numOf s M st me) (o (numOf s M st me)) k (shouldR s M k st me S).2.1 0 x S2 → RdT s M k st me S o 0 (shouldR s M k st me S).2.1 ⟨S2, put1 o (numOf s M st me) x⟩
inductive RdR (LL : Nat) (s : Go.Proofs.YtplbgjjacomceaaGreatDoor.S.Sup) (M St : Nat) (n : Int) (S : Sh.Sf) (o : Nat → Int) : Int → Sh.Bs → Stt → Prop
  | refused : refY S (hasB M St n) ≠ 0 → RdR LL s M St n S o (refY S (hasB M St n)) [] ⟨S, o⟩
  | there (m : Nat) (y : Int) (X : Sh.Bs) (t : Stt) : n = (m : Int) → m < St * (M - 1) → S.off = false → RdT s M (2 + 2 * LL + stOf M m) (stOf M m) (meOf M m) S o y X t → RdR LL s M St n S o y X t
section
variable {J : Vk} {w w' : World} {s : Go.Proofs.YtplbgjjacomceaaGreatDoor.S.Sup} {o : Nat → Int} {S : Sh.Sf} {F : Nat → Prop} {D U : Set0} {M St : Nat}
/-- What a Read leaves of a volume, and its bytes. -/
def RdQ (J : Vk) (w : World) (s : Go.Proofs.YtplbgjjacomceaaGreatDoor.S.Sup) (o : Nat → Int) (S : Sh.Sf) (F : Nat → Prop) (D U : Set0) (M St : Nat) (n : Int) (y : Int) (A : Option Addr) (len cap : Nat) (w' : World) : Prop :=
  ∃ X t F', RdR J.L s M St n S o y X t ∧ Vr J w' s t.o t.S F' D U ∧ Sh.Moves (AllV J F) w (AllV J F') w' ∧ ((y = 0 ∧ len = 128 ∧ Sh.Bytes w w' A X ∧ Sh.Sec X ∧ ∀ a, A = some a → ¬ AllV J F' a.block) ∨ (y ≠ 0 ∧ A = none ∧ len = 0 ∧ cap = 0))
theorem new_apart (hlt : ∀ b, AllV J F b → b < w.heap.size) {A : Option Addr} {X : Sh.Bs} (hb : Sh.Bytes w w' A X) : ∀ a, A = some a → ¬ AllV J F a.block := fun a ha e => by
  have h1 := (hb.2 a ha).1
  have h2 := hlt _ e
  omega
set_option maxRecDepth 20000 in
set_option maxHeartbeats 8000000 in
theorem vRead_any (h : Vr J w s o S F D U) (hf : Fits J.n J.L s M St S) (hT : Tabs J.W) (hTB : max 1 2 + 1 ≤ J.B) (n : Int) {mm : Nat} (hL : ∀ x ∈ S.disks, x.waits.length ≤ mm) (hmm : mm ≤ 500000000) :
    Calls Tryz.prog 20 #[.pointer (some ⟨J.v, 0, none⟩), .int .i64 n] w fun e w' => ∃ (y : Int) (A : Option Addr) (len cap : Nat), e = .returned (.tuple #[.slice A len cap, .int .i64 y]) ∧ RdQ J w s o S F D U M St n y A len cap w' := by
  have HHB := Lib.hid (vhas h hf n)
  have HH := Lib.hid (And.intro h (And.intro hf hL))
  have HRF := Lib.hid (fun (w1 : World) (b : Below w.heap.size w w1) => vrefusal (h.grown b) (hasB M St n))
  generalize hry : refY S (hasB M St n) = ry at *
  have HRY := Lib.hid hry
  have hbn : Hid (ry = 0 → ∃ m : Nat, n = (m : Int) ∧ m < St * (M - 1) ∧ S.off = false) := Lib.hid (by
    intro e
    rw [e] at hry
    unfold refY hasB at hry
    by_cases hb : 0 ≤ n ∧ n < ((St * (M - 1) : Nat) : Int)
    · rw [decide_eq_true hb, if_pos rfl] at hry
      refine ⟨n.toNat, by omega, by omega, ?_⟩
      cases ho : S.off
      · rfl
      · rw [ho] at hry; cases hry
    · rw [decide_eq_false hb, if_neg (by decide)] at hry
      cases hry)
  clear h hf hL hry
  go_enter Tryz.func20, Tryz.ntmps20
  generalize hhb : hasB M St n = bb at *
  go_wp2_with fail
  refine HHB.out.mono ?_
  rintro e w1 ⟨rfl, hb1⟩
  have HB1 := Lib.hid hb1
  have HR1 := Lib.hid (HRF.out w1 hb1)
  clear HHB hb1 HRF
  have HBB := Lib.hid hhb
  clear hhb
  go_wp2_with fail
  refine HR1.out.mono ?_
  rintro e w' ⟨rfl, rfl⟩
  clear HR1
  by_cases h0 : ry = 0
  · subst h0
    obtain ⟨m, rfl, hm, hoff⟩ := hbn.out rfl
    obtain ⟨h, hf, hL⟩ := HH.out
    have V1 := h.grown HB1.out
    have c2 := cell_of_row _ _ 2 _ _ _ V1.vo.vol.root
    simp only [List.getElem?_toArray, List.getElem?_cons_zero, List.getElem?_cons_succ, hf.mem] at c2
    have hM15 : St * (M - 1) ≤ 1024 * 15 := Nat.mul_le_mul hf.s2 (by have := hf.m16; omega)
    have hM3 := hf.m3
    have hM16 := hf.m16
    have HMP := Lib.hid (fun w => L.map_ok M m w hM3 hM16 (by omega))
    rw [spot_is] at HMP
    have hstM : stOf M m < St := by unfold stOf; exact (Nat.div_lt_iff_lt_mul (by omega)).2 hm
    have hmeM : meOf M m < M := L.memAt_lt M _ _ (by omega)
    have HMM := Lib.hid hm
    have HOF := Lib.hid hoff
    generalize hst : stOf M m = st at *
    generalize hmeE : meOf M m = me at *
    generalize plOf M m = pl at *
    have HEQ := Lib.hid (And.intro hst hmeE)
    have HTH : Hid (∀ y X t, RdT s M (2 + 2 * J.L + st) st me S o y X t → RdR J.L s M St (m : Int) S o y X t) := Lib.hid fun y X t ht => by
      obtain ⟨e1, e2⟩ := HEQ.out
      exact .there m y X t rfl HMM.out HOF.out (by rw [e1, e2]; exact ht)
    unfold spotV at HMP
    clear h hf hL V1 hm hoff hst hmeE hM15 hM3 hM16
    go_wp2_with fail
    refine (HMP.out _).mono ?_
    rintro e w2 ⟨rfl, hb2⟩
    have hbx : Below w.heap.size w w2 := HB1.out.trans (hb2.mono HB1.out.size)
    have hb3 : Below w2.heap.size w2 (w2.alloc (.cells #[.int .i64 st, .int .i64 me, .int .i64 pl] 93)) := (Below.refl _ _).alloc (Nat.le_refl _) _
    have V3 := (HH.out.1.grown hbx).grown hb3
    have q3 := heap_alloc_new w2 (.cells #[.int .i64 st, .int .i64 me, .int .i64 pl] 93)
    have hn3 : ¬ AllV J F w2.heap.size := fun e => Nat.lt_irrefl _ ((HH.out.1.grown hbx).lt _ e)
    have HK3 := Lib.hid (And.intro V3 (And.intro q3 (And.intro hn3 (hbx.trans (hb3.mono hbx.size)))))
    have HLK := Lib.hid (look_any V3 HH.out.2.1 hT hTB st me hstM hmeM)
    clear hb2 hbx hb3 V3 q3 hn3 c2 HMP
    obtain ⟨k0, k1, _, _⟩ := cells3_of HK3.out.2.1
    go_wp2_with fail
    generalize w2.alloc (.cells #[.int .i64 st, .int .i64 me, .int .i64 pl] 93) = w3 at *
    generalize w2.heap.size = qq at *
    refine HLK.out.mono ?_
    rintro e w4 ⟨⟨A4, n4, c4, rfl, hX4⟩, hS4⟩
    have hly := isLacking_any (rdY S (numOf s M st me) (2 + 2 * J.L + st))
    have HX4 := Lib.hid hX4
    have HS4 := Lib.hid hS4
    have hq4 := beside_goes HK3.out.2.1 HK3.out.2.2.1 (⟨hS4.2, fun _ e => .inl e⟩ : Sh.Moves (AllV J F) w3 (AllV J F) w4)
    have HQ4 := Lib.hid hq4
    have HSEC : Hid (Sh.Sec (V S (numOf s M st me) (dataOf (2 + 2 * J.L + st)))) := Lib.hid (HH.out.1.secs HH.out.2.1 (show 2 + 2 * J.L + st < 2 + 2 * J.L + St by omega) _ (HH.out.2.1.num_lt st hmeM))
    clear HLK k0 k1 hX4 hS4 hq4
    by_cases hl : rdY S (numOf s M st me) (2 + 2 * J.L + st) = 4 ∨ rdY S (numOf s M st me) (2 + 2 * J.L + st) = 5
    · have hSL : Same S (Looked S (numOf s M st me)) := (Same.refl S).looked _
      have hf4 := HH.out.2.1.same hSL.len hSL.sectors
      have HSH := Lib.hid (should_any HS4.out.1 hf4 hT hTB st me hstM)
      have hsec : Sh.Sec (shouldR s M (2 + 2 * J.L + st) st me S).2.1 := tog_sec hf4 (fun d hd => by rw [hSL.V]; exact HH.out.1.secs HH.out.2.1 (show 2 + 2 * J.L + st < 2 + 2 * J.L + St by omega) d hd) (Nat.le_refl _)
      have hsm : Same S (shouldR s M (2 + 2 * J.L + st) st me S).1 := hSL.trans (tog_same M)
      have HSR : Hid (∀ q, q = shouldR s M (2 + 2 * J.L + st) st me S → tog s M (2 + 2 * J.L + st) st (tkNot me) (Looked S (numOf s M st me)) M = q) := Lib.hid fun q e => e.symm
      rw [show tog s M (2 + 2 * J.L + st) st (tkNot me) (Looked S (numOf s M st me)) M = shouldR s M (2 + 2 * J.L + st) st me S from rfl] at HSH
      generalize hsr : shouldR s M (2 + 2 * J.L + st) st me S = sr at *
      obtain ⟨S1, x1, y1⟩ := sr
      simp only at HSH hsec hsm
      have HSE := Lib.hid hsr
      clear hsr HSR
      rw [decide_eq_true hl] at hly
      have HLL := Lib.hid hl
      have HSM := Lib.hid hsm
      obtain ⟨k0, k1, _, _⟩ := cells3_of HQ4.out.1
      clear hl hSL hf4 hsm
      generalize hyr : rdY S (numOf s M st me) (2 + 2 * J.L + st) = yr at *
      have HYR := Lib.hid hyr
      clear hyr
      go_wp2_with (go_at_call 58; refine (hly _).mono ?_; rintro e w' ⟨rfl, rfl⟩)
      refine HSH.out.mono ?_
      rintro e w5 ⟨⟨A5, n5, c5, rfl, hX5⟩, hS5⟩
      clear HSH hly
      have HS5 := Lib.hid hS5
      have hm5 : Sh.Moves (AllV J F) w (AllV J F) w5 := (moves_grown HK3.out.2.2.2).trans (Sh.Moves.trans (⟨HS4.out.2, fun _ e => .inl e⟩ : Sh.Moves (AllV J F) w3 (AllV J F) w4) ⟨hS5.2, fun _ e => .inl e⟩)
      have HM5 := Lib.hid hm5
      have HX5 := Lib.hid hX5
      clear hX5 hS5 hm5
      by_cases h1 : y1 = 0
      · subst h1
        obtain ⟨hn5, hBy⟩ : n5 = 128 ∧ Sh.Bytes w w5 A5 x1 := by
          rcases HX5.out with ⟨_, h1, h2⟩ | ⟨h1, _⟩
          · exact ⟨h1, bytes_from h2 (Nat.le_trans HK3.out.2.2.2.size HS4.out.2.size)⟩
          · exact absurd rfl h1
        subst hn5
        have HBY := Lib.hid hBy
        have hap := new_apart HH.out.1.lt hBy
        have HAP := Lib.hid hap
        rcases HLL.out with e4 | e5
        · have hy4 : yr = 4 := e4
          subst hy4
          have HR := Lib.hid (HTH.out 0 x1 ⟨S1, o⟩ (by have := RdT.dead (o := o) HYR.out (by rw [HSE.out]); rw [HSE.out] at this; exact this))
          clear hBy hap e4 k0 k1
          go_wp2
          go_ret2
          exact ⟨0, A5, 128, c5, rfl, x1, ⟨S1, o⟩, F, HR.out, HS5.out.1, HM5.out, .inl ⟨rfl, rfl, HBY.out, hsec, HAP.out⟩⟩
        · have hy5 : yr = 5 := e5
          subst hy5
          have HST := Lib.hid (set_any HS5.out.1 (HH.out.2.1.same HSM.out.len HSM.out.sectors) hT hTB st me hstM hmeM (A := A5) (c := c5) hsec ⟨hBy.1, hap⟩ (by rw [HSM.out.disks]; exact HH.out.2.2) (by omega))
          have k0b : w5.cell? ⟨qq, 0, none⟩ = some (.int .i64 st) := (HS5.out.2.cell (p := ⟨qq, 0, none⟩) (lt_of_block HQ4.out.1) HQ4.out.2).trans k0
          have k1b : w5.cell? ⟨qq, 1, none⟩ = some (.int .i64 me) := (HS5.out.2.cell (p := ⟨qq, 1, none⟩) (lt_of_block HQ4.out.1) HQ4.out.2).trans k1
          clear hBy hap e5 k0 k1
          go_wp2_with fail
          refine HST.out.mono ?_
          rintro e w6 ⟨z, rfl, x6, S6, hD6, F6, V6, m6⟩
          clear HST k0b k1b
          have HD6 := Lib.hid hD6
          have HV6 := Lib.hid (And.intro V6 (And.intro m6 (HM5.out.trans m6)))
          clear hD6 V6 m6
          by_cases hz : z = 0
          · subst hz
            have HR := Lib.hid (HTH.out 0 x1 ⟨S6, put1 o (numOf s M st me) x6⟩ (by have := RdT.mend (o := o) x6 S6 HYR.out (by rw [HSE.out]) (by rw [HSE.out]; exact HD6.out); rw [HSE.out] at this; exact this))
            go_wp2
            go_ret2
            have hb6 := bytes_only HBY.out HAP.out HV6.out.2.1.1
            exact ⟨0, A5, 128, c5, rfl, x1, _, F6, HR.out, HV6.out.1, HV6.out.2.2, .inl ⟨rfl, rfl, hb6, hsec, fun a ha e => by
              rcases HV6.out.2.1.2 _ e with e | e
              · exact HAP.out a ha e
              · obtain ⟨ad, e1, hlt, _⟩ := HBY.out.1.2 (by decide)
                rw [ha] at e1
                injection e1 with e1
                subst e1
                omega⟩⟩
          · have hq : (z != 0) = true := by simpa using hz
            have hq2 : (z == 0) = false := by simpa using hz
            have HR := Lib.hid (HTH.out z [] ⟨S6, put1 o (numOf s M st me) x6⟩ (RdT.bad (o := o) z x6 S6 HYR.out (by rw [HSE.out]) (by rw [HSE.out]; exact HD6.out) hz))
            have HZ := Lib.hid hz
            clear hz
            go_wp2
            go_ret2
            exact ⟨z, none, 0, 0, rfl, [], _, F6, HR.out, HV6.out.1, HV6.out.2.2, .inr ⟨HZ.out, rfl, rfl, rfl⟩⟩
      · have hq : (y1 != 0) = true := by simpa using h1
        have hq2 : (y1 == 0) = false := by simpa using h1
        have HR := Lib.hid (HTH.out y1 [] ⟨S1, o⟩ (by have := RdT.lack (o := o) (by rw [HYR.out]; exact HLL.out) (by rw [HSE.out]; exact h1); rw [HSE.out] at this; exact this))
        have H1 := Lib.hid h1
        clear h1 k0 k1
        go_wp2
        go_ret2
        exact ⟨y1, none, 0, 0, rfl, [], ⟨S1, o⟩, F, HR.out, HS5.out.1, HM5.out, .inr ⟨H1.out, rfl, rfl, rfl⟩⟩
    · rw [decide_eq_false hl] at hly
      have HR := Lib.hid (HTH.out _ _ _ (.plain hl))
      have HV : Hid (RStay J w w4 s o (Looked S (numOf s M st me)) F D U) := Lib.hid (RStay.trans (only_below _ HK3.out.2.2.2) HS4.out)
      clear hl
      generalize rdY S (numOf s M st me) (2 + 2 * J.L + st) = yr at *
      go_wp2_with (go_at_call 58; refine (hly _).mono ?_; rintro e w' ⟨rfl, rfl⟩)
      go_ret2
      refine ⟨yr, A4, n4, c4, rfl, _, _, F, HR.out, HV.out.1, ⟨HV.out.2, fun _ e => .inl e⟩, HX4.out.imp (fun ⟨h1, h2, h3⟩ => ?_) id⟩
      have hby : Sh.Bytes w w4 A4 _ := bytes_from h3 HK3.out.2.2.2.size
      exact ⟨h1, h2, hby, HSEC.out, new_apart HH.out.1.lt hby⟩
  · have hq : (ry != 0) = true := by simpa using h0
    have hq2 : (ry == 0) = false := by simpa using h0
    have H0 := Lib.hid h0
    clear h0
    go_wp2
    go_ret2
    have e : refY S (hasB M St n) = ry := by rw [HBB.out]; exact HRY.out
    refine ⟨ry, none, 0, 0, rfl, [], ⟨S, o⟩, F, ?_, HH.out.1.grown HB1.out, moves_grown HB1.out, .inr ⟨H0.out, rfl, rfl, rfl⟩⟩
    have := RdR.refused (LL := J.L) (s := s) (M := M) (St := St) (n := n) (S := S) (o := o) (by rw [e]; exact H0.out)
    rw [e] at this
    exact this
end
end Go.Proofs.YtplbgjjacomceaaGreatDoor.U
