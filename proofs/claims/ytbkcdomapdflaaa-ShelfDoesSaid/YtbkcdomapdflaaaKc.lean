/-
  What a sector of the definition's surely has.
  Conditions: the definition's shelf lies in memory.
-/
import Derived.Test.YtbkcdomapdflaaaKb
namespace Go.Proofs.Ytbkcdomapdflaaa.Sh
open Go.RowKit Go.Maps

theorem ats_at {L : List (Nat × Bs)} {i n : Nat} {b : Bs} (h : L[i]? = some (n, b)) : (ats L)[i]? = some (.int .i64 (n : Int)) := by simp [ats, h]
theorem bys_at {L : List (Nat × Bs)} {i n : Nat} {b : Bs} (h : L[i]? = some (n, b)) : (bys L)[i]? = some (sv b) := by simp [bys, h]
def zeroR : Nat → Value
  | 0 => .slice none 0 0
  | 1 => .slice none 0 0
  | 2 => .slice none 0 0
  | _ => .bool false
theorem info_rdisk : (Try.prog.info? 79).map (fun i => (i.zero, i.size, i.bytes)) = some (some (.agg #[.slice none 0 0, .slice none 0 0, .slice none 0 0, .bool false]), 4, 80) := by kernel_rfl
set_option maxRecDepth 20000 in
set_option maxHeartbeats 800000 in
theorem rsure_any {w : World} {q D : Nat} {S : Sf} {F : Nat → Prop} {gs : Nat → Gr} {Ls : Nat → List (Nat × Bs)} {st : Bool} {l : Int} (h : RefIs w q S F D gs Ls st l) (d n : Nat) (hd : d < S.disks.length) (hn : n < S.sectors) {y : Bs} (hy : (S.disks.getD d default).sure.getD n [] = y) :
    Calls Try.prog 49 #[.pointer (some ⟨q, 0, none⟩), .int .i64 d, .int .i64 n] w fun e w' => e = .returned (sv y) ∧ Below w.heap.size w w' := by
  obtain ⟨i0, hi, hz0, hz1, hz2⟩ := info_parts info_u8
  have c0 := h.c0
  have k0 := h.dc hd (c := 0) (by decide)
  have k1 := h.dc hd (c := 1) (by decide)
  have k2 := h.dc hd (c := 2) (by decide)
  have k3 := h.dc hd (c := 3) (by decide)
  have hm := h.most
  have hs := h.secM
  have hk := h.disk d hd
  have hsays := hk.says n hn
  have hmo := hk.most
  have hat := hk.at_
  have hby := hk.by_
  simp only [diskR, Nat.add_zero] at k0 k1 k2 k3
  obtain ⟨A, ca, hva⟩ := own_shape2 hat
  obtain ⟨B, cb, hvb⟩ := own_shape2 hby
  obtain ⟨C, cc, hvc⟩ := own_shape2 hk.waits
  rw [hva] at k0 hat
  rw [hvb] at k1 hby
  rw [hvc] at k2
  rw [hy] at hsays
  clear hy hva hvb hvc hk
  clear h
  generalize (S.disks.getD d default).dead = dead at *
  generalize (S.disks.getD d default).waits.length = nw at *
  generalize hL : Ls d = L at *
  generalize S.disks.length = k at *
  generalize S.sectors = m at *
  have hw0 := heap_alloc_new w (.cells #[.slice A L.length ca, .slice B L.length cb, .slice C nw cc, .bool dead] 79)
  have hb0 : Below w.heap.size w (w.alloc (.cells #[.slice A L.length ca, .slice B L.length cb, .slice C nw cc, .bool dead] 79)) := (Below.refl _ w).alloc (Nat.le_refl _) _
  go_enter Try.func49, Try.ntmps49
  go_wp2
  generalize w.alloc (.cells #[.slice A L.length ca, .slice B L.length cb, .slice C nw cc, .bool dead] 79) = w0 at *
  have hz := hb0.size
  have g0 := cell_of_row _ _ 0 _ _ _ hw0
  have g1 := cell_of_row _ _ 1 _ _ _ hw0
  have hgz : w.heap.size < w0.heap.size := lt_of_block hw0
  have hat0 : w0.ownsRow 0 3 1 (.slice A L.length ca) L.length (ats L) := same_row hat fun b hb => hb0.block b (hat.lt b hb).2
  have hby0 : w0.ownsRow 0 9 1 (.slice B L.length cb) L.length (bys L) := same_row hby fun b hb => hb0.block b (hby.lt b hb).2
  simp only [List.getElem?_toArray, List.getElem?_cons_zero, List.getElem?_cons_succ] at g0 g1
  clear c0 k0 k1 k2 k3 hat hby hw0
  have HS := Lib.hid hsays
  clear hsays
  go_loopw [8] (fun i wr => ∃ j : Nat, j ≤ L.length ∧ i = .int .i64 j ∧ w0 = wr ∧ Hid (∀ (c : Nat) x, c < j → L[c]? = some x → x.1 ≠ n)) (fun i _ => L.length - (intOf i).toNat)
  case atStart => exact ⟨0, Nat.zero_le _, rfl, rfl, Lib.hid (fun c x h => absurd h (Nat.not_lt_zero _))⟩
  case round =>
    obtain ⟨j, hj, rfl, rfl, hno⟩ := hrel
    by_cases hlt : j < L.length
    · obtain ⟨n2, b2, hjw⟩ : ∃ n2 b2, L[j]? = some (n2, b2) := ⟨_, _, List.getElem?_eq_getElem hlt⟩
      obtain ⟨ga, cap2, he, _, hlc, hcm⟩ := own_form hat0 (by omega)
      simp only [Value.slice.injEq, true_and] at he
      obtain ⟨rfl, rfl⟩ := he
      obtain ⟨gb, cap3, he, _, hlc3, hcm3⟩ := own_form hby0 (by omega)
      simp only [Value.slice.injEq, true_and] at he
      obtain ⟨rfl, rfl⟩ := he
      have x0 := cell_at hat0 (ats_at hjw)
      have x1 := cell_at hby0 (bys_at hjw)
      have HJ := Lib.hid hjw
      clear hat0 hby0 hjw
      by_cases hq : n2 = n
      · have HV := Lib.hid (show sv b2 = sv y by
          rw [← HS.out]
          obtain ⟨i1, b1, e1, e2, e3, _⟩ := seek_at L n (by rw [← hq]; exact List.mem_map_of_mem (f := (·.1)) (List.mem_of_getElem? HJ.out))
          have : i1 = j := by
            rcases Nat.lt_trichotomy i1 j with h | h | h
            · exact absurd rfl (hno.out i1 _ h e1)
            · exact h
            · exact absurd hq (e2 j _ h HJ.out)
          rw [this, HJ.out] at e1
          injection e1 with e1
          injection e1 with _ e1
          rw [e3, e1])
        have qd : ((n2 : Int) == (n : Int)) = true := by rw [beq_iff_eq]; omega
        clear hno HS
        have HB := Lib.hid (show sv b2 = .string (strL b2) from rfl)
        change _ = some (Value.string (strL b2)) at x1
        generalize strL b2 = s2 at *
        go_wp2
        go_ret
        exact ⟨by rw [← HV.out, HB.out]; rfl, hb0⟩
      · have qd : ((n2 : Int) == (n : Int)) = false := by rw [beq_eq_false_iff_ne]; omega
        have HB := Lib.hid (show sv b2 = .string (strL b2) from rfl)
        change _ = some (Value.string (strL b2)) at x1
        generalize strL b2 = s2 at *
        go_wp2
        go_roundw
        case rel =>
          refine ⟨j + 1, by omega, by go_num, by trivial, Lib.hid (fun c x hc hx => ?_)⟩
          rcases Nat.lt_or_ge c j with h | h
          · exact hno.out c x h hx
          · obtain rfl : c = j := by omega
            rw [HJ.out] at hx
            injection hx with hx
            subst hx
            exact hq
        case measure => simp [intOf]; omega
    · obtain rfl : j = L.length := by omega
      have HV := Lib.hid (show sv noughts = sv y by
        rw [← HS.out]
        by_cases hin : n ∈ L.map (·.1)
        · obtain ⟨i1, b1, e1, e2, e3, _⟩ := seek_at L n hin
          exact absurd rfl (hno.out i1 _ (List.getElem?_eq_some_iff.1 e1).1 e1)
        · rw [(seek_out L n hin).2.1])
      clear hno HS hat0 hby0
      go_wp2_with (at_make; refine wpList_make_full _ rfl _ _ 36 rfl 0 5 i0 _ 1 Try.underlying36 hi hz0 hz1 _ _ _ _ 128 rfl rfl rfl rfl (by rw [hz2]; omega) (by unfold maxLen; omega) (Nat.zero_le _) ?_; intro w2 hown2 hgrow2; have hstr := run_str 128 (noughts_reads hown2))
      go_ret
      exact ⟨by rw [← HV.out]; rfl, hb0.grown hgrow2 hz (fun b e => by cases e)⟩
end Go.Proofs.Ytbkcdomapdflaaa.Sh
