/-
  The definition's Corrupt.
  Conditions: the definition's shelf lies in memory.
-/
import Derived.Test.YtbkcdomapdflaaaKh
namespace Go.Proofs.Ytbkcdomapdflaaa.Sh
open Go.RowKit Go.Maps

set_option maxRecDepth 20000 in
/-- A text's bytes, one of them turned, and the text of them. -/
theorem turn_parts (w : World) (b : Bs) (h : Sec b) (i x y : Nat) (hi : i < 128) (hy : b.getD i 0 = y) : ∃ W1 cap, (convert 9 36 (.string (strL b))).run Try.prog w = .ok (.slice (some ⟨w.heap.size, 0, none⟩) 128 cap) W1 ∧
    W1.cell? ⟨w.heap.size, i, none⟩ = some (.int .u8 ((y : Nat) : Int)) ∧ W1.frozen? ⟨w.heap.size, i, none⟩ = false ∧ Below w.heap.size w W1 ∧
    (convert 36 9 (.slice (some ⟨w.heap.size, 0, none⟩) 128 cap)).run Try.prog (W1.setCell ⟨w.heap.size, i, none⟩ (.int .u8 ((y ^^^ x : Nat) : Int))) = .ok (.string (strL (turnB b i x))) (W1.setCell ⟨w.heap.size, i, none⟩ (.int .u8 ((y ^^^ x : Nat) : Int))) := by
  have e : ∀ j, (⟨w.heap.size, 0, none⟩ : Addr).add j = ⟨w.heap.size, j, none⟩ := fun j => by unfold Addr.add; split <;> simp_all
  obtain ⟨hrd, hfr⟩ := bytes_new w b h (grownCap w 128 0 5)
  have kb := bytes_of w b h.1
  have hB : Below w.heap.size w (w.drew.alloc (.cells (bytesRow (strL b) (grownCap w 128 0 5)) 5 ((bytesRow (strL b) (grownCap w 128 0 5)).size, (bytesRow (strL b) (grownCap w 128 0 5)).size + 1))) := ((Below.refl _ w).drew).alloc (Nat.le_refl _) _
  generalize w.drew.alloc (.cells (bytesRow (strL b) (grownCap w 128 0 5)) 5 ((bytesRow (strL b) (grownCap w 128 0 5)).size, (bytesRow (strL b) (grownCap w 128 0 5)).size + 1)) = W1 at *
  obtain ⟨ad, had, hadl, hcells⟩ := hrd.2 (by decide)
  injection had with had
  subst had
  have kk1 : W1.cell? ⟨w.heap.size, i, none⟩ = some (.int .u8 ((y : Nat) : Int)) := by
    have := hcells i _ (bts_get b i (by have := h.1; omega))
    rw [hy] at this
    rwa [e] at this
  have f1 : W1.frozen? ⟨w.heap.size, i, none⟩ = false := by have := (hfr _ rfl).2 i hi; rwa [e] at this
  refine ⟨W1, _, kb, kk1, f1, hB, ?_⟩
  have hrd2 : Reads (W1.setCell ⟨w.heap.size, i, none⟩ (.int .u8 ((y ^^^ x : Nat) : Int))) (w.heap.size + 1) (some ⟨w.heap.size, 0, none⟩) 128 (bts (turnB b i x)) := by
    unfold turnB
    rw [hy]
    refine ⟨by rw [bts_length, List.length_set, h.1], fun _ => ⟨_, rfl, Nat.lt_succ_self _, fun j u hu => ?_⟩⟩
    rw [e]
    rw [bts_set] at hu
    by_cases hji : j = i
    · subst hji
      rw [List.getElem?_set_self (by rw [bts_length, h.1]; exact hi)] at hu
      rw [World.cell?_setCell_same' W1 ⟨w.heap.size, j, none⟩ _ (by rw [kk1]; rfl)]
      exact hu
    · rw [List.getElem?_set_ne (Ne.symm hji)] at hu
      rw [World.cell?_setCell_other W1 ⟨w.heap.size, i, none⟩ ⟨w.heap.size, j, none⟩ _ (by intro e2; apply hji; injection e2 with _ e3 _; first | exact e3 | exact e3.symm)]
      have := hcells j u hu
      rwa [e] at this
  exact run_str _ hrd2
section
variable {w : World} {q D : Nat} {S : Sf} {F : Nat → Prop} {gs : Nat → Gr} {Ls : Nat → List (Nat × Bs)} {st : Bool} {l : Int}
theorem rcorrupt_refused (h : RefIs w q S F D gs Ls st l) (d n i : Int) (x : Nat) (hno : ¬ hasS S d n ∨ i < 0 ∨ 127 < i) :
    Calls Try.prog 34 #[.pointer (some ⟨q, 0, none⟩), .int .i64 d, .int .i64 n, .int .i64 i, .int .u8 x] w fun e w' => e = .returned (.int .i64 1) ∧ w = w' := by
  by_cases hs : hasS S d n
  · have hs2 := hs
    obtain ⟨a1, a2, a3, a4⟩ := hs
    obtain ⟨d, rfl⟩ : ∃ m : Nat, d = (m : Int) := ⟨d.toNat, by omega⟩
    obtain ⟨n, rfl⟩ : ∃ m : Nat, n = (m : Int) := ⟨n.toNat, by omega⟩
    have hc := Lib.hid (rhas_yes h d n (by omega) (by omega))
    have hi : i < 0 ∨ (0 ≤ i ∧ 127 < i) := by
      rcases hno with e | e
      · exact absurd hs2 e
      · omega
    clear h hno hs2 a1 a2 a3 a4
    rcases hi with hi | ⟨hi0, hi⟩
    · go_enter Try.func34, Try.ntmps34
      go_wp2_with (go_at_call 47; refine hc.out.mono ?_; rintro e w' ⟨rfl, rfl⟩)
      go_ret
      exact ⟨rfl, rfl⟩
    · have hq : decide (i < 0) = false := decide_eq_false (by omega)
      go_enter Try.func34, Try.ntmps34
      go_wp2_with (go_at_call 47; refine hc.out.mono ?_; rintro e w' ⟨rfl, rfl⟩)
      go_ret
      exact ⟨rfl, rfl⟩
  · have hc := Lib.hid (rhas_no h d n hs)
    clear h hno hs
    go_enter Try.func34, Try.ntmps34
    go_wp2_with (go_at_call 47; refine hc.out.mono ?_; rintro e w' ⟨rfl, rfl⟩)
    go_ret
    exact ⟨rfl, rfl⟩
/-- What Corrupt answers, of a byte that there is. -/
def TurnIs (w : World) (q : Nat) (F : Nat → Prop) (S : Sf) (d n i x : Nat) (e : Ending) (w' : World) : Prop :=
  ((lastOf (S.disks.getD d default).waits n).isSome = true ∧ e = .returned (.int .i64 9) ∧ w = w') ∨ (lastOf (S.disks.getD d default).waits n = none ∧ e = .returned (.int .i64 0) ∧ RLeft F w q (S.doCorrupt d n i x) w')
theorem turned_end {w w2 w3 : World} {g' : Gr} {d n i x : Nat} (h : RefIs w q S F D gs Ls st l) (hd : d < S.disks.length) (hb : Below w.heap.size w w2) (hs : RSet w2 w3 q D S F gs Ls st l d n (turnB ((S.disks.getD d default).sure.getD n []) i x) g') : RLeft F w q (S.doCorrupt d n i x) w3 := by
  refine ⟨_, ⟨_, _, _, _, _, hs.is_⟩, ?_, ?_⟩
  · refine Only.trans (F' := rsetF D (gs d)) (w1 := w2) ⟨hb.os, hb.tape, hb.output, hb.size, fun k hk _ => hb.block k hk⟩ hs.only (fun b hb => .inl ?_)
    rcases hb with rfl | hb | hb
    · exact h.inF.2.1
    · exact h.inF.2.2 d b hd (.inl hb)
    · exact h.inF.2.2 d b hd (.inr (.inl hb))
  · rintro b (hb2 | hb2)
    · exact .inl hb2
    · rcases hs.new b hb2 with e | e
      · exact .inl (h.inF.2.2 d b hd e)
      · exact .inr (Nat.le_trans hb.size e)
set_option maxRecDepth 20000 in
set_option maxHeartbeats 1600000 in
theorem rcorrupt_any (h : RefIs w q S F D gs Ls st l) (d n i x : Nat) (hd : d < S.disks.length) (hn : n < S.sectors) (hi : i < 128) (hx : x < 256) (hL : (S.disks.getD d default).waits.length ≤ 4398046511104) :
    Calls Try.prog 34 #[.pointer (some ⟨q, 0, none⟩), .int .i64 d, .int .i64 n, .int .i64 i, .int .u8 x] w (TurnIs w q F S d n i x) := by
  have hc := Lib.hid (rhas_yes h d n hd hn)
  have c0 := h.c0
  have k2 := h.dc hd (c := 2) (by decide)
  have hm := h.most
  have hk := h.disk d hd
  have hwt := hk.waits
  have hsec : Sec ((S.disks.getD d default).sure.getD n []) := hk.secs _ (getD_memB (by rw [hk.len]; exact hn))
  have HSU := Lib.hid (rsure_any h d n hd hn (y := (S.disks.getD d default).sure.getD n []) rfl)
  have HEND := Lib.hid (fun w2 w3 g' hb hs => turned_end (w2 := w2) (w3 := w3) (g' := g') (n := n) (i := i) (x := x) h hd hb hs)
  have HSET := Lib.hid (fun (w2 : World) (hb : Below w.heap.size w w2) => rset_any (h.only (w' := w2) (G := fun _ => False) ⟨hb.os, hb.tape, hb.output, hb.size, fun k hk _ => hb.block k hk⟩ (fun _ _ e => e)) d n (turnB ((S.disks.getD d default).sure.getD n []) i x) hd hn (turnB_sec hsec hx))
  simp only [diskR] at k2
  obtain ⟨A, nW, ca, hva, hnW⟩ : ∃ A nW ca, (gs d).v = .slice A nW ca ∧ nW = (S.disks.getD d default).waits.length := by
    obtain ⟨A, ca, hva⟩ := own_shape2 hwt
    exact ⟨A, _, ca, hva, rfl⟩
  rw [hva] at k2 hwt
  have t0 : decide ((i : Int) < 0) = false := by simp
  have t1 : decide ((i : Int) > 127) = false := by simp; omega
  obtain ⟨y, hyy⟩ : ∃ y, ((S.disks.getD d default).sure.getD n []).getD i 0 = y := ⟨_, rfl⟩
  have hxor : bits .xor .u8 (y : Int) (x : Int) = ((y ^^^ x : Nat) : Int) := u8_xor_nat _ x (by rw [← hyy]; exact hsec.2.get i) hx
  have HY := Lib.hid hyy
  clear hyy
  have HSEC := Lib.hid hsec
  clear hva hk h hsec
  have HD : Hid (∀ e w', ((lastOf (S.disks.getD d default).waits n).isSome = true ∧ e = .returned (.int .i64 9) ∧ w = w') ∨ (lastOf (S.disks.getD d default).waits n = none ∧ e = .returned (.int .i64 0) ∧ RLeft F w q (S.doCorrupt d n i x) w') → TurnIs w q F S d n i x e w') := Lib.hid (fun _ _ h => h)
  generalize TurnIs w q F S d n i x = Post at *
  generalize RLeft F w q (S.doCorrupt d n i x) = End at *
  generalize (S.disks.getD d default).sure.getD n [] = b at *
  generalize (S.disks.getD d default).waits = W at *
  subst hnW
  unfold sv at HSU HSET
  generalize hkk : S.disks.length = k at *
  go_enter Try.func34, Try.ntmps34
  go_wp2_with (go_at_call 47; refine hc.out.mono ?_; rintro e w' ⟨rfl, rfl⟩)
  go_loopw [12] (fun c wr => ∃ j : Nat, j ≤ W.length ∧ c = .int .i64 j ∧ w = wr ∧ Hid (∀ (c : Nat) y, c < j → W[c]? = some y → y.1 ≠ n)) (fun c _ => W.length - (intOf c).toNat)
  case atStart => exact ⟨0, Nat.zero_le _, rfl, rfl, Lib.hid (fun c x h => absurd h (Nat.not_lt_zero _))⟩
  case round =>
    obtain ⟨j, hj, rfl, rfl, hno⟩ := hrel
    by_cases hlt : j < W.length
    · obtain ⟨n2, b2, hjw⟩ : ∃ n2 b2, W[j]? = some (n2, b2) := ⟨_, _, List.getElem?_eq_getElem hlt⟩
      obtain ⟨gv, cap2, he, _, hlc, hcm⟩ := own_form hwt (by omega)
      simp only [Value.slice.injEq, true_and] at he
      obtain ⟨rfl, rfl⟩ := he
      have hfl := flat_at _ _ _ _ hjw
      have x0 := cell_at hwt hfl.1
      have HJ := Lib.hid hjw
      clear hfl hwt hjw
      by_cases hq : n2 = n
      · have qd : ((n2 : Int) == (n : Int)) = true := by rw [beq_iff_eq]; omega
        have hsome : (lastOf W n).isSome = true := by
          rw [lastOf_isSome, List.any_eq_true]
          exact ⟨_, List.mem_of_getElem? HJ.out, decide_eq_true (by show (n2 : Int) = n; omega)⟩
        have HS := Lib.hid hsome
        clear hno HSU HEND HSET hsome
        go_wp2
        exact HD.out _ _ (.inl ⟨HS.out, rfl, rfl⟩)
      · have qd : ((n2 : Int) == (n : Int)) = false := by rw [beq_eq_false_iff_ne]; omega
        clear HSU HEND HSET
        go_wp2
        go_roundw
        case rel =>
          refine ⟨j + 1, by omega, by go_num, by trivial, Lib.hid (fun c x hc hx => ?_)⟩
          rcases Nat.lt_or_ge c j with h | h
          · exact hno.out c x h hx
          · obtain rfl : c = j := by omega
            rw [HJ.out] at hx
            injection hx with hx
            subst hx
            exact hq
        case measure => simp [intOf]; omega
    · obtain rfl : j = W.length := by omega
      have hnone : lastOf W n = none := by
        rcases hlo : lastOf W n with _ | jj
        · rfl
        exfalso
        have hs : (lastOf W n).isSome = true := by rw [hlo]; rfl
        rw [lastOf_isSome, List.any_eq_true] at hs
        obtain ⟨y, hy, hy2⟩ := hs
        obtain ⟨c, hc⟩ := List.getElem?_of_mem hy
        exact hno.out c y (List.getElem?_eq_some_iff.1 hc).1 hc (by have := of_decide_eq_true hy2; omega)
      have HS := Lib.hid hnone
      clear hno hwt c0 k2 hnone
      go_wp2_with (go_at_call 49; refine HSU.out.mono ?_; rintro e w1 ⟨rfl, hb1⟩; obtain ⟨W1, cap, kb, kk, kf, hb2, kc⟩ := turn_parts w1 b HSEC.out i x y hi HY.out)
      have hbb : Below w.heap.size w (W1.setCell ⟨w1.heap.size, i, none⟩ (.int .u8 ((y ^^^ x : Nat) : Int))) := (hb1.trans (hb2.mono hb1.size)).setCell (p := ⟨w1.heap.size, i, none⟩) hb1.size _
      refine (HSET.out _ hbb).mono ?_
      rintro e w3 ⟨rfl, g', hs⟩
      have hend := Lib.hid (HEND.out _ _ g' hbb hs)
      clear hs hbb kb kk kf kc
      go_wp2
      exact HD.out _ _ (.inr ⟨HS.out, rfl, hend.out⟩)
end
end Go.Proofs.Ytbkcdomapdflaaa.Sh
