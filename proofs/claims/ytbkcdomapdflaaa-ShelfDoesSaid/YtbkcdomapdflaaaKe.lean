/-
  The definition's Read, Kill and Stop.
  Conditions: the definition's shelf lies in memory.
-/
import Derived.Test.YtbkcdomapdflaaaKd
namespace Go.Proofs.Ytbkcdomapdflaaa.Sh
open Go.RowKit Go.Maps

theorem latest_none (n : Nat) : ∀ (l : List (Nat × Bs)) (d : Bs), (∀ (c : Nat) x, l[c]? = some x → x.1 ≠ n) → latest l n d = d
  | [], _, _ => rfl
  | x :: t, d, h => by
    unfold latest
    rw [if_neg (h 0 x rfl)]
    exact latest_none n t d (fun c y hy => h (c + 1) y (by simpa using hy))
theorem latest_at (n : Nat) (b : Bs) : ∀ (l : List (Nat × Bs)) (j : Nat) (d : Bs), l[j]? = some (n, b) → (∀ (c : Nat) x, j < c → l[c]? = some x → x.1 ≠ n) → latest l n d = b
  | [], j, _, h, _ => by simp at h
  | x :: t, 0, d, h, hno => by
    simp at h
    subst h
    unfold latest
    rw [if_pos rfl]
    exact latest_none n t b (fun c y hy => hno (c + 1) y (by omega) (by simpa using hy))
  | x :: t, j + 1, d, h, hno => by
    unfold latest
    exact latest_at n b t j _ (by simpa using h) (fun c y hc hy => hno (c + 1) y (by omega) (by simpa using hy))
section
variable {w : World} {q D : Nat} {S : Sf} {F : Nat → Prop} {gs : Nat → Gr} {Ls : Nat → List (Nat × Bs)} {st : Bool} {l : Int}
theorem Pow.same {S S' : Sf} {st : Bool} {l : Int} (h : Pow S st l) (ho : S'.off = S.off) (hl : S'.left = S.left) : Pow S' st l := by
  obtain ⟨h1, h2, h3, h4, h5, h6⟩ := h
  exact ⟨by rw [ho, hl]; exact h1, by rw [hl]; exact h2, by rw [ho, hl]; exact h3, by rw [hl]; exact h4, h5, h6⟩
theorem rread_refused (h : RefIs w q S F D gs Ls st l) (d n : Int) (hno : ¬ hasS S d n) :
    Calls Try.prog 28 #[.pointer (some ⟨q, 0, none⟩), .int .i64 d, .int .i64 n] w fun e w' => e = .returned (.tuple #[.string ⟨#[]⟩, .int .i64 1]) ∧ w = w' := by
  have hc := Lib.hid (rhas_no h d n hno)
  clear h hno
  go_enter Try.func28, Try.ntmps28
  go_wp2_with (go_at_call 47; refine hc.out.mono ?_; rintro e w' ⟨rfl, rfl⟩)
  go_ret2
  exact ⟨rfl, rfl⟩
theorem rread_why (h : RefIs w q S F D gs Ls st l) (d n : Nat) (hd : d < S.disks.length) (hn : n < S.sectors) {y : Int} (hy : why S d = y) (h0 : y ≠ 0) :
    Calls Try.prog 28 #[.pointer (some ⟨q, 0, none⟩), .int .i64 d, .int .i64 n] w fun e w' => e = .returned (.tuple #[.string ⟨#[]⟩, .int .i64 y]) ∧ w = w' := by
  have hc := Lib.hid (rhas_yes h d n hd hn)
  have hw := Lib.hid (rwhy_any h d hd hy)
  have hq : (y == 0) = false := by rw [beq_eq_false_iff_ne]; exact h0
  clear h hy h0
  go_enter Try.func28, Try.ntmps28
  go_wp2_with (first
    | (go_at_call 47; refine hc.out.mono ?_; rintro e w' ⟨rfl, rfl⟩)
    | (go_at_call 48; refine hw.out.mono ?_; rintro e w' ⟨rfl, rfl⟩))
  go_ret2
  exact ⟨rfl, rfl⟩
set_option maxRecDepth 20000 in
set_option maxHeartbeats 800000 in
theorem rread_done (h : RefIs w q S F D gs Ls st l) (d n : Nat) (hd : d < S.disks.length) (hn : n < S.sectors) (hy : why S d = 0) {v : Bs} (hv : (S.disks.getD d default).val n = v) (hL : (S.disks.getD d default).waits.length ≤ 4398046511104) :
    Calls Try.prog 28 #[.pointer (some ⟨q, 0, none⟩), .int .i64 d, .int .i64 n] w fun e w' => e = .returned (.tuple #[sv v, .int .i64 0]) ∧ ∃ w1, Below w1.heap.size w1 w' ∧ RefIs w1 q S.doRead F D gs Ls st l ∧ Only (fun b => b = q) w w1 := by
  have hc := Lib.hid (rhas_yes h d n hd hn)
  have hw := Lib.hid (rwhy_any h d hd hy)
  have c0 := h.c0
  have c2 := h.c2
  have f2 := h.free 2
  have hm := h.most
  have k2 := h.dc hd (c := 2) (by decide)
  have hDq : D ≠ q := Ne.symm h.qD
  have hroot1 := cells_set (i := 2) (.int .i64 (wrap64 (S.count + 1))) h.root
  have hO1 : Only (fun b => b = q) w (w.setCell ⟨q, 2, none⟩ (.int .i64 (wrap64 (S.count + 1)))) := Only.setCell (F := fun b => b = q) (p := ⟨q, 2, none⟩) (Only.refl _ w) (.inl rfl) _
  have hk1 : ∀ b, b ≠ q → (w.setCell ⟨q, 2, none⟩ (.int .i64 (wrap64 (S.count + 1)))).heap[b]? = w.heap[b]? := fun b hb => heap_set_other _ _ _ hb
  have hR1 : RefIs (w.setCell ⟨q, 2, none⟩ (.int .i64 (wrap64 (S.count + 1)))) q S.doRead F D gs Ls st l := by
    have := h.rooted (w' := w.setCell ⟨q, 2, none⟩ (.int .i64 (wrap64 (S.count + 1)))) S.off S.left (wrap64 (S.count + 1)) st l (h.pow.same rfl rfl) (by rw [hroot1]; rfl) (fun b _ hb => hk1 b hb) hO1.size
    exact this
  have hdl : S.doRead.disks = S.disks := rfl
  have hds : S.doRead.sectors = S.sectors := rfl
  have hk := h.disk d hd
  have hwt := hk.waits
  have HSU := Lib.hid (rsure_any hR1 d n (by rw [hdl]; exact hd) (by rw [hds]; exact hn) (y := (S.disks.getD d default).sure.getD n []) rfl)
  simp only [diskR] at k2
  obtain ⟨A, ca, hva⟩ := own_shape2 hwt
  rw [hva] at k2 hwt
  have hAq : (Value.slice A (S.disks.getD d default).waits.length ca).ownBlock ≠ some q := fun e => h.nq hd (.inr (.inr (by rw [hva]; exact e)))
  have hval : latest (S.disks.getD d default).waits n ((S.disks.getD d default).sure.getD n []) = v := hv
  clear hv hk hva hdl hds
  generalize (S.disks.getD d default).sure.getD n [] = sn at *
  generalize hWW : (S.disks.getD d default).waits = W at *
  have m0 : (w.setCell ⟨q, 2, none⟩ (.int .i64 (wrap64 (S.count + 1)))).cell? ⟨D, d * 4 + 2, none⟩ = some (.slice A W.length ca) := (World.cell?_of_block (hk1 D hDq)).trans k2
  have mc := cell_of_row _ _ 0 _ _ _ hroot1
  have hwt1 : (w.setCell ⟨q, 2, none⟩ (.int .i64 (wrap64 (S.count + 1)))).ownsRow 0 92 2 (.slice A W.length ca) W.length (flat W) := same_row hwt fun b hb => hk1 b (fun e => hAq (by rw [hb, e]))
  have HR := Lib.hid hR1
  have HO := Lib.hid hO1
  have HV := Lib.hid hval
  clear hR1 hO1 hval hroot1 hk1 hwt h k2
  generalize S.disks.length = k at *
  generalize S.count = cnt at *
  have mc2 : (w.setCell ⟨q, 2, none⟩ (.int .i64 (wrap64 (cnt + 1)))).cell? ⟨q, 0, none⟩ = some (.slice (some ⟨D, 0, none⟩) k k) := mc
  go_enter Try.func28, Try.ntmps28
  go_wp2_with (first
    | (go_at_call 47; refine hc.out.mono ?_; rintro e w' ⟨rfl, rfl⟩)
    | (go_at_call 48; refine hw.out.mono ?_; rintro e w' ⟨rfl, rfl⟩))
  clear c0 c2 f2 mc mc2 m0 hc hw
  generalize w.setCell ⟨q, 2, none⟩ (.int .i64 (wrap64 (cnt + 1))) = w1 at *
  go_loopw [10] (fun i wr => ∃ j : Nat, j ≤ W.length ∧ i = .int .i64 ((j : Int) - 1) ∧ w1 = wr ∧ Hid (∀ (c : Nat) x, j ≤ c → W[c]? = some x → x.1 ≠ n)) (fun i _ => (intOf i + 1).toNat)
  case atStart => exact ⟨W.length, Nat.le_refl _, by go_num, rfl, Lib.hid (fun c x h hx => by rw [List.getElem?_eq_none h] at hx; cases hx)⟩
  case round =>
    obtain ⟨j, hj, rfl, rfl, hno⟩ := hrel
    rcases Nat.eq_zero_or_pos j with rfl | hj0
    · have HE := Lib.hid (show sv sn = sv v by rw [← HV.out, latest_none n W sn (fun c x hx => hno.out c x (Nat.zero_le _) hx)])
      clear hno HV hwt1
      go_wp2_with (go_at_call 49; refine HSU.out.mono ?_; rintro e w' ⟨rfl, hb⟩)
      go_ret2
      exact ⟨by rw [← HE.out]; rfl, w1, hb, HR.out, HO.out⟩
    · obtain ⟨j, rfl⟩ : ∃ m, j = m + 1 := ⟨j - 1, by omega⟩
      obtain ⟨n2, b2, hjw⟩ : ∃ n2 b2, W[j]? = some (n2, b2) := ⟨_, _, List.getElem?_eq_getElem (by omega)⟩
      obtain ⟨gv, cap2, he, _, hlc, hcm⟩ := own_form hwt1 (by omega)
      simp only [Value.slice.injEq, true_and] at he
      obtain ⟨rfl, rfl⟩ := he
      have hfl := flat_at _ _ _ _ hjw
      have x0 := cell_at hwt1 hfl.1
      have x1 := cell_at hwt1 hfl.2
      have ej : ((j + 1 : Nat) : Int) - 1 = (j : Int) := by omega
      have HJ := Lib.hid hjw
      rw [ej]
      clear hfl hjw
      have HB := Lib.hid (show sv b2 = .string (strL b2) from rfl)
      change _ = some (Value.string (strL b2)) at x1
      generalize strL b2 = s2 at *
      by_cases hq : n2 = n
      · have HE := Lib.hid (show sv b2 = sv v by rw [← HV.out, latest_at n b2 W j sn (by rw [← hq]; exact HJ.out) (fun c x hc hx => hno.out c x (by omega) hx)])
        have qd : ((n2 : Int) == (n : Int)) = true := by rw [beq_iff_eq]; omega
        clear hno HV hwt1
        go_wp2
        go_ret2
        exact ⟨by rw [← HE.out, HB.out]; rfl, w1, Below.refl _ _, HR.out, HO.out⟩
      · have qd : ((n2 : Int) == (n : Int)) = false := by rw [beq_eq_false_iff_ne]; omega
        clear HV hwt1
        go_wp2
        go_roundw
        case rel =>
          refine ⟨j, by omega, by go_num, by trivial, Lib.hid (fun c x hc hx => ?_)⟩
          rcases Nat.lt_or_ge j c with h | h
          · exact hno.out c x h hx
          · obtain rfl : c = j := by omega
            rw [HJ.out] at hx
            injection hx with hx
            subst hx
            exact hq
        case measure => simp [intOf]
end
end Go.Proofs.Ytbkcdomapdflaaa.Sh
