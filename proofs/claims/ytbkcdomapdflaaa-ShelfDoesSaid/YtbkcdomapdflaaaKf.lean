/-
  The definition's Kill, Stop, and what refuses a Write or a Flush.
  Conditions: the definition's shelf lies in memory.
-/
import Derived.Test.YtbkcdomapdflaaaKe
namespace Go.Proofs.Ytbkcdomapdflaaa.Sh
open Go.RowKit Go.Maps

section
variable {w : World} {q D : Nat} {S : Sf} {F : Nat → Prop} {gs : Nat → Gr} {Ls : Nat → List (Nat × Bs)} {st : Bool} {l : Int}
theorem rkill_no (h : RefIs w q S F D gs Ls st l) (d : Int) (hno : ¬ hasD S d) :
    Calls Try.prog 32 #[.pointer (some ⟨q, 0, none⟩), .int .i64 d] w fun e w' => e = .returned (.int .i64 1) ∧ w = w' := by
  have hc := Lib.hid (rhas_no h d 0 (fun e => hno ⟨e.1, e.2.1⟩))
  clear h hno
  go_enter Try.func32, Try.ntmps32
  go_wp2_with (go_at_call 47; refine hc.out.mono ?_; rintro e w' ⟨rfl, rfl⟩)
  go_ret
  exact ⟨rfl, rfl⟩
theorem rkill_done (h : RefIs w q S F D gs Ls st l) (d : Nat) (hd : d < S.disks.length) :
    Calls Try.prog 32 #[.pointer (some ⟨q, 0, none⟩), .int .i64 d] w fun e w' => e = .returned (.int .i64 0) ∧ RLeft F w q (S.doKill d) w' := by
  have hc := Lib.hid (rhas_yes h d 0 hd h.sec1)
  have c0 := h.c0
  have k3 := h.dc hd (c := 3) (by decide)
  have f3 := h.dfree (d * 4 + 3)
  have hm := h.most
  have hk := h.disk d hd
  have hO : Only F w (w.setCell ⟨D, d * 4 + 3, none⟩ (.bool true)) := Only.setCell (p := ⟨D, d * 4 + 3, none⟩) (Only.refl _ w) (.inl h.inF.2.1) _
  have hother : ∀ b, b ≠ D → (w.setCell ⟨D, d * 4 + 3, none⟩ (.bool true)).heap[b]? = w.heap[b]? := fun b hb => heap_set_other _ _ _ hb
  have hrow : (w.setCell ⟨D, d * 4 + 3, none⟩ (.bool true)).ownsRow 0 79 4 (.slice (some ⟨D, 0, none⟩) S.disks.length S.disks.length) S.disks.length (rowOf (fun x c => if x = d then diskR (gs d) true c else diskR (gs x) (S.disks.getD x default).dead c) S.disks.length 4) := by
    have h1 := (h.row.stored (d * 4 + 3) (.bool true)).1
    rw [rowOf_set _ (by decide)] at h1
    have e : rowOf (fun x c => if x = d then diskR (gs d) true c else diskR (gs x) (S.disks.getD x default).dead c) S.disks.length 4 = rowOf (fun a b => if a = d ∧ b = 3 then Value.bool true else diskR (gs a) (S.disks.getD a default).dead b) S.disks.length 4 := by
      refine rowOf_congr (by decide) fun x c _ hc => ?_
      by_cases e : x = d
      · subst e
        rw [if_pos rfl]
        match c, hc with
        | 0, _ => simp [diskR]
        | 1, _ => simp [diskR]
        | 2, _ => simp [diskR]
        | 3, _ => simp [diskR]
      · rw [if_neg e, if_neg (fun h => e h.1)]
    rw [e]
    exact h1
  have hdk : RDk (w.setCell ⟨D, d * 4 + 3, none⟩ (.bool true)) S.sectors (gs d) (Ls d) { S.disks.getD d default with dead := true } := by
    have := hk.same (w' := w.setCell ⟨D, d * 4 + 3, none⟩ (.bool true)) (fun b hb => hother b (fun e => h.nD hd (by rw [← e]; exact hb)))
    exact ⟨this.at_, this.by_, this.waits, this.len, this.says, this.keys, this.low, this.fits, this.secs⟩
  have hend : RLeft F w q (S.doKill d) (w.setCell ⟨D, d * 4 + 3, none⟩ (.bool true)) :=
    ⟨_, ⟨_, _, _, _, _, h.turned hd (gs d) (Ls d) { S.disks.getD d default with dead := true } S.off S.left S.count st l (h.pow.same rfl rfl) ((hother q h.qD).trans h.root) hrow hdk (fun b _ _ hb _ => hother b hb) hO.size (fun b hb => .inl hb)⟩, hO, fun b hb => hb.elim .inl (fun hb => .inl (h.inF.2.2 d b hd hb))⟩
  have HE := Lib.hid hend
  clear hend hrow hother hO hdk hk h
  generalize S.disks.length = k at *
  generalize (S.disks.getD d default).dead = dead at *
  simp only [diskR] at k3
  go_enter Try.func32, Try.ntmps32
  go_wp2_with (go_at_call 47; refine hc.out.mono ?_; rintro e w' ⟨rfl, rfl⟩)
  go_ret
  exact ⟨rfl, HE.out⟩
theorem rstop_any (h : RefIs w q S F D gs Ls st l) (n : Int) (b0 : -9223372036854775808 ≤ n) (b1 : n ≤ 9223372036854775807) :
    Calls Try.prog 36 #[.pointer (some ⟨q, 0, none⟩), .int .i64 n] w fun e w' => e = .returned (.tuple #[]) ∧ Ref w' q (S.doStop n) F ∧ Only F w w' := by
  have HO := Lib.hid (roff_any h)
  cases ho : S.off
  · have e : S.doStop n = { S with off := decide (n = 0), left := n.toNat } := by unfold Sf.doStop; rw [ho]; rfl
    have f3 := h.free 3
    have f4 := h.free 4
    have c3 := h.c3
    have c4 := h.c4
    have hroot2 := cells_set (i := 4) (.int .i64 n) (cells_set (i := 3) (.bool (decide (n ≥ 0))) h.root)
    have hO2 : Only F w ((w.setCell ⟨q, 3, none⟩ (.bool (decide (n ≥ 0)))).setCell ⟨q, 4, none⟩ (.int .i64 n)) := Only.setCell (p := ⟨q, 4, none⟩) (Only.setCell (p := ⟨q, 3, none⟩) (Only.refl _ w) (.inl h.inF.1) _) (.inl h.inF.1) _
    have hp : Pow { S with count := S.count, off := decide (n = 0), left := n.toNat } (decide (n ≥ 0)) n := by
      refine ⟨?_, fun e => ?_, fun e => ?_, ?_, b0, b1⟩
      · show decide (n ≥ 0) = (decide (n = 0) || decide (0 < n.toNat))
        by_cases h0 : n ≥ 0
        · rw [decide_eq_true h0]
          by_cases h1 : n = 0
          · rw [decide_eq_true h1]; rfl
          · rw [decide_eq_false h1, decide_eq_true (by omega)]; rfl
        · rw [decide_eq_false h0, decide_eq_false (by omega), decide_eq_false (by omega)]; rfl
      · have := of_decide_eq_true e
        show n = ((n.toNat : Nat) : Int)
        omega
      · have e : decide (n = 0) = true := e
        have := of_decide_eq_true e
        show n.toNat = 0
        omega
      · show n.toNat ≤ _
        omega
    have HE := Lib.hid (h.rooted (w' := (w.setCell ⟨q, 3, none⟩ (.bool (decide (n ≥ 0)))).setCell ⟨q, 4, none⟩ (.int .i64 n)) (decide (n = 0)) n.toNat S.count (decide (n ≥ 0)) n hp (by rw [hroot2]; rfl) (fun b _ hb2 => (heap_set_other _ _ _ hb2).trans (heap_set_other _ _ _ hb2)) hO2.size)
    have HO2 := Lib.hid hO2
    have He := Lib.hid e
    clear hO2 hroot2 hp e h
    rw [ho] at HO
    go_enter Try.func36, Try.ntmps36
    go_wp2_with (go_at_call 39; refine HO.out.mono ?_; rintro e w' ⟨rfl, rfl⟩)
    all_goals go_end0
    all_goals exact ⟨rfl, by rw [He.out]; exact ⟨_, _, _, _, _, HE.out⟩, HO2.out⟩
  · have e : S.doStop n = S := by unfold Sf.doStop; rw [if_pos ho]
    have HE := Lib.hid (show Ref w q (S.doStop n) F by rw [e]; exact ⟨_, _, _, _, _, h⟩)
    clear h e
    rw [ho] at HO
    go_enter Try.func36, Try.ntmps36
    go_wp2_with (go_at_call 39; refine HO.out.mono ?_; rintro e w' ⟨rfl, rfl⟩)
    (try simp only [Exit.inBlock, Exit.then])
    refine bodyPost_ret (results_none rfl _ _ _) rfl ?_
    exact ⟨rfl, HE.out, Only.refl _ _⟩
theorem rwrite_refused (h : RefIs w q S F D gs Ls st l) (d n : Int) (s : ByteArray) (hno : ¬ hasS S d n ∨ s.size ≠ 128) :
    Calls Try.prog 30 #[.pointer (some ⟨q, 0, none⟩), .int .i64 d, .int .i64 n, .string s] w fun e w' => e = .returned (.int .i64 1) ∧ w = w' := by
  by_cases hs : hasS S d n
  · have hs2 := hs
    obtain ⟨a1, a2, a3, a4⟩ := hs
    obtain ⟨d, rfl⟩ : ∃ m : Nat, d = (m : Int) := ⟨d.toNat, by omega⟩
    obtain ⟨n, rfl⟩ : ∃ m : Nat, n = (m : Int) := ⟨n.toNat, by omega⟩
    have hc := Lib.hid (rhas_yes h d n (by omega) (by omega))
    have hq : ((s.size : Int) == 128) = false := by
      rw [beq_eq_false_iff_ne]
      rcases hno with e | e
      · exact absurd hs2 e
      · omega
    clear h hno hs2 a1 a2 a3 a4
    go_enter Try.func30, Try.ntmps30
    go_wp2_with (go_at_call 47; refine hc.out.mono ?_; rintro e w' ⟨rfl, rfl⟩)
    go_ret
    exact ⟨rfl, rfl⟩
  · have hc := Lib.hid (rhas_no h d n hs)
    clear h hno hs
    go_enter Try.func30, Try.ntmps30
    go_wp2_with (go_at_call 47; refine hc.out.mono ?_; rintro e w' ⟨rfl, rfl⟩)
    go_ret
    exact ⟨rfl, rfl⟩
theorem rwrite_why (h : RefIs w q S F D gs Ls st l) (d n : Nat) (s : ByteArray) (hd : d < S.disks.length) (hn : n < S.sectors) (hs : s.size = 128) {y : Int} (hy : why S d = y) (h0 : y ≠ 0) :
    Calls Try.prog 30 #[.pointer (some ⟨q, 0, none⟩), .int .i64 d, .int .i64 n, .string s] w fun e w' => e = .returned (.int .i64 y) ∧ w = w' := by
  have hc := Lib.hid (rhas_yes h d n hd hn)
  have hw := Lib.hid (rwhy_any h d hd hy)
  have hq : (y == 0) = false := by rw [beq_eq_false_iff_ne]; exact h0
  have hq2 : ((s.size : Int) == 128) = true := by rw [beq_iff_eq]; omega
  clear h hy h0 hs
  go_enter Try.func30, Try.ntmps30
  go_wp2_with (first
    | (go_at_call 47; refine hc.out.mono ?_; rintro e w' ⟨rfl, rfl⟩)
    | (go_at_call 48; refine hw.out.mono ?_; rintro e w' ⟨rfl, rfl⟩))
  go_ret
  exact ⟨rfl, rfl⟩
theorem rflush_no (h : RefIs w q S F D gs Ls st l) (d : Int) (hno : ¬ hasD S d) :
    Calls Try.prog 31 #[.pointer (some ⟨q, 0, none⟩), .int .i64 d] w fun e w' => e = .returned (.int .i64 1) ∧ w = w' := by
  have hc := Lib.hid (rhas_no h d 0 (fun e => hno ⟨e.1, e.2.1⟩))
  clear h hno
  go_enter Try.func31, Try.ntmps31
  go_wp2_with (go_at_call 47; refine hc.out.mono ?_; rintro e w' ⟨rfl, rfl⟩)
  go_ret
  exact ⟨rfl, rfl⟩
theorem rflush_why (h : RefIs w q S F D gs Ls st l) (d : Nat) (hd : d < S.disks.length) {y : Int} (hy : why S d = y) (h0 : y ≠ 0) :
    Calls Try.prog 31 #[.pointer (some ⟨q, 0, none⟩), .int .i64 d] w fun e w' => e = .returned (.int .i64 y) ∧ w = w' := by
  have hc := Lib.hid (rhas_yes h d 0 hd h.sec1)
  have hw := Lib.hid (rwhy_any h d hd hy)
  have hq : (y == 0) = false := by rw [beq_eq_false_iff_ne]; exact h0
  clear h hy h0
  go_enter Try.func31, Try.ntmps31
  go_wp2_with (first
    | (go_at_call 47; refine hc.out.mono ?_; rintro e w' ⟨rfl, rfl⟩)
    | (go_at_call 48; refine hw.out.mono ?_; rintro e w' ⟨rfl, rfl⟩))
  go_ret
  exact ⟨rfl, rfl⟩
end
end Go.Proofs.Ytbkcdomapdflaaa.Sh
