/-
  The contract of Crash: of each disk's writes that wait those are sure whose numbers are kept; the power is on.
  Conditions: the shelf lies in memory, the lists of numbers below it.
-/
import Derived.Test.YtbkcdomapdflaaaHn
namespace Go.Proofs.Ytbkcdomapdflaaa.Sh
open Go.RowKit Go.Maps

/-- A disk was turned, the power was not. -/
theorem turn_only {w w2 : World} {p D : Nat} {S : Sf} {F : Nat → Prop} {gs : Nat → Gh} (h : ShelfIs w p S F D gs) {d : Nat} (hd : d < S.disks.length) (k' : Dk) (v : Value)
    (hdead : k'.dead = (S.disks.getD d default).dead)
    (hO : Only ((gs d).has) w w2)
    (hdisk : DiskIs w2 S.sectors { s := (gs d).s, m := (gs d).m, v := v } k')
    (hnew : ∀ b, v.ownBlock = some b → (gs d).v.ownBlock = some b ∨ w.heap.size ≤ b) :
    Left F w p { S with disks := S.disks.set d k' } (w2.setCell ⟨D, d * 4 + 1, none⟩ v) := by
  have hDF : ¬ (gs d).has D := h.nD hd
  have hD2 : w2.heap[D]? = w.heap[D]? := hO.block D h.Dlt hDF
  have hroot : w2.heap[p]? = w.heap[p]? := hO.block p h.plt (h.np hd)
  have hrow2 := same_row (w' := w2) h.row fun b hb => by injection hb with hb; subst hb; exact hD2
  have hrow3 := (hrow2.stored (d * 4 + 1) v).1
  rw [rowOf_set _ (by decide)] at hrow3
  have hvD : ¬ (Gh.has { s := (gs d).s, m := (gs d).m, v := v } D) := by
    intro e
    obtain ⟨cur, hc⟩ := row_type hrow2 rfl
    rcases hdisk.kinds e hc with e | e <;> exact absurd e (by decide)
  have hOF : Only F w w2 := hO.mono fun b hb => h.inF.2.2 d b hd hb
  have hO4 : Only F w (w2.setCell ⟨D, d * 4 + 1, none⟩ v) := hOF.setCell (.inl h.inF.2.1) v
  refine ⟨_, ⟨D, _, h.turned hd { s := (gs d).s, m := (gs d).m, v := v } k' S.off S.left S.count h.left ?_ ?_ ?_ ?_ hO4.size ?_⟩, hO4, ?_⟩
  · rw [heap_set_other _ _ _ h.pD, hroot]; exact h.root
  · have e : rowOf (fun a c => if a = d ∧ c = 1 then v else diskV (gs a) (S.disks.getD a default).dead c) S.disks.length 4 = rowOf (fun a c => if a = d then diskV { s := (gs d).s, m := (gs d).m, v := v } k'.dead c else diskV (gs a) (S.disks.getD a default).dead c) S.disks.length 4 := by
      refine rowOf_congr (by decide) fun a c _ hc => ?_
      by_cases ea : a = d
      · subst ea
        rw [if_pos rfl, hdead]
        match c, hc with
        | 0, _ => simp [diskV]
        | 1, _ => simp [diskV]
        | 2, _ => simp [diskV]
        | 3, _ => simp [diskV]
      · rw [if_neg ea, if_neg (fun h => ea h.1)]
    rw [← e]
    exact hrow3
  · refine hdisk.same fun b hb => heap_set_other _ _ _ (by rintro rfl; exact hvD hb)
  · intro b hb _ hbD hbg
    rw [heap_set_other _ _ _ hbD]
    exact hO.block b (h.ltF b hb) hbg
  · intro b hb
    rcases hb with hb | hb | hb
    · exact .inl (.inl hb)
    · exact .inl (.inr (.inl hb))
    · exact (hnew b hb).imp (fun e => .inr (.inr e)) id
  · rintro b (hb | hb)
    · exact .inl hb
    · rcases hb with hb | hb | hb
      · exact .inl (h.inF.2.2 d b hd (.inl hb))
      · exact .inl (h.inF.2.2 d b hd (.inr (.inl hb)))
      · exact (hnew b hb).imp (fun e => h.inF.2.2 d b hd (.inr (.inr e))) id

/-- The lists of numbers that a crash keeps: a slice of slices, all of it in blocks of G. -/
def KeepIs (w : World) (G : Nat → Prop) (A : Option Addr) (n : Nat) (ks : List (List Int)) : Prop :=
  ks.length = n ∧ (0 < n → ∃ ad, A = some ad ∧ G ad.block ∧ ∀ j, j < n → ∃ A' m c, w.cell? (ad.add j) = some (.slice A' m c) ∧ m ≤ 9223372036854775807 ∧ Reads w w.heap.size A' m (ints (ks.getD j [])) ∧ (0 < m → ∀ a', A' = some a' → G a'.block))
theorem reads_only {w w' : World} {F : Nat → Prop} {A : Option Addr} {n : Nat} {xs : List Value} (h : Reads w w.heap.size A n xs) (hO : Only F w w') (hA : 0 < n → ∀ a, A = some a → ¬ F a.block) : Reads w' w'.heap.size A n xs := by
  refine ⟨h.1, fun hn => ?_⟩
  obtain ⟨ad, e, hlt, hc⟩ := h.2 hn
  exact ⟨ad, e, Nat.lt_of_lt_of_le hlt hO.size, fun j u hu => (hO.cell (p := ad.add j) (by rw [block_of_add]; exact hlt) (by rw [block_of_add]; exact hA hn ad e)).trans (hc j u hu)⟩
theorem KeepIs.only {w w' : World} {F G : Nat → Prop} {n : Nat} {A : Option Addr} {ks : List (List Int)} (h : KeepIs w G A n ks) (hO : Only F w w') (hG : ∀ b, G b → b < w.heap.size ∧ ¬ F b) : KeepIs w' G A n ks := by
  refine ⟨h.1, fun hn => ?_⟩
  obtain ⟨ad, e, hg, hc⟩ := h.2 hn
  refine ⟨ad, e, hg, fun j hj => ?_⟩
  obtain ⟨A', m, c, h1, h2, h3, h4⟩ := hc j hj
  exact ⟨A', m, c, (hO.cell (p := ad.add j) (by rw [block_of_add]; exact (hG _ hg).1) (by rw [block_of_add]; exact (hG _ hg).2)).trans h1, h2, reads_only h3 hO (fun hm a ha => (hG _ (h4 hm a ha)).2), h4⟩
def keptOf (ks : List (List Int)) (d : Nat) : Nat → Bool := kpOf (ks.getD d [])
/-- The shelf when so many disks have been looked after. -/
def Sf.crashTo (S : Sf) (ks : List (List Int)) (j : Nat) : Sf :=
  { S with disks := (List.range S.disks.length).map fun d => if d < j then (S.disks.getD d default).settle (keptOf ks d) else S.disks.getD d default }
def Sf.crash (S : Sf) (ks : List (List Int)) : Sf := { S.crashTo ks S.disks.length with off := false, left := 0 }
theorem crashTo_length (S : Sf) (ks : List (List Int)) (j : Nat) : (S.crashTo ks j).disks.length = S.disks.length := by simp [Sf.crashTo]
theorem crashTo_zero (S : Sf) (ks : List (List Int)) : S.crashTo ks 0 = S := by
  have e : ((List.range S.disks.length).map fun d => if d < 0 then (S.disks.getD d default).settle (keptOf ks d) else S.disks.getD d default) = S.disks := by
    apply List.ext_getElem?
    intro i
    by_cases h : i < S.disks.length
    · simp [h, List.getD]
    · simp [h]
  unfold Sf.crashTo
  rw [e]
theorem crashTo_at (S : Sf) (ks : List (List Int)) {j : Nat} (h : j < S.disks.length) : (S.crashTo ks j).disks.getD j default = S.disks.getD j default := by
  simp [Sf.crashTo, List.getD, h]
theorem crashTo_succ (S : Sf) (ks : List (List Int)) {j : Nat} (h : j < S.disks.length) : { S.crashTo ks j with disks := (S.crashTo ks j).disks.set j ((S.disks.getD j default).settle (keptOf ks j)) } = S.crashTo ks (j + 1) := by
  have e : (S.crashTo ks j).disks.set j ((S.disks.getD j default).settle (keptOf ks j)) = (S.crashTo ks (j + 1)).disks := by
    apply List.ext_getElem?
    intro i
    rw [List.getElem?_set]
    by_cases hi : j = i
    · subst hi
      simp [Sf.crashTo, h]
    · by_cases hl : i < S.disks.length
      · by_cases hj : i < j
        · simp [Sf.crashTo, hl, hi, hj, show i < j + 1 by omega]
        · simp [Sf.crashTo, hl, hi, hj, show ¬ i < j + 1 by omega]
      · simp [Sf.crashTo, hl, hi]
  rw [e]; rfl
theorem Kept.only {w w' : World} {q st L : Nat} {l : List Int} {G : Nat → Prop} (h : Kept w q st L l) (hO : Only G w w') (hq : ¬ G q) (hs : ¬ G st) : Kept w' q st L l :=
  ⟨(hO.block q (lt_of_block h.cell) hq).trans h.cell, same_row h.row fun b hb => by injection hb with hb; subst hb; exact hO.block _ (h.row.lt st rfl).2 hs⟩
theorem crash_round {w wr wk : World} {p D j L q st : Nat} {S : Sf} {F F1 : Nat → Prop} {gs : Nat → Gh} {ks : List (List Int)} {l : List Int} (h1 : ShelfIs wr p (S.crashTo ks j) F1 D gs) (hmv : Moves F w F1 wr) (hj : j < S.disks.length)
    (hb : Below wr.heap.size wr wk) (hK : Kept wk q st L l) (hq : wr.heap.size ≤ q) (hs : wr.heap.size ≤ st) (hl : ks.getD j [] = l) (hL : (S.disks.getD j default).waits.length = L) (hLm : L < 4398046511104) :
    Calls Try.prog 25 #[.pointer (some ⟨D, j * 4, none⟩), .func (.func 46) #[] #[.pointer (some ⟨q, 0, none⟩)]] wk fun e w' => e = .returned (.tuple #[]) ∧ Left F w p (S.crashTo ks (j + 1)) w' := by
  have hjl : j < (S.crashTo ks j).disks.length := by rw [crashTo_length]; exact hj
  have hdk := crashTo_at S ks hj
  have hdi := h1.diskOf hjl
  have hsame : ∀ b, b < wr.heap.size → wk.heap[b]? = wr.heap[b]? := fun b hb' => hb.block b hb'
  have hdk2 : DiskIs wk S.sectors (gs j) (S.disks.getD j default) := by
    rw [hdk] at hdi
    exact hdi.same fun b hb' => hsame b (hdi.lt hb')
  have hgs : ∀ b, (gs j).has b → b < wr.heap.size := fun b hb' => hdi.lt hb'
  have hFq : ¬ setF (gs j) q := fun e => by
    have : q < wr.heap.size := hgs q (e.elim (fun e => .inr (.inl e.symm)) .inl)
    omega
  have hFs : ¬ setF (gs j) st := fun e => by
    have : st < wr.heap.size := hgs st (e.elim (fun e => .inr (.inl e.symm)) .inl)
    omega
  have cD : ∀ c, c < 4 → wk.cell? ⟨D, j * 4 + c, none⟩ = some (diskV (gs j) (S.disks.getD j default).dead c) := fun c hc => by
    rw [World.cell?_of_block (w := wr) (hsame D h1.Dlt), h1.dc hjl hc, hdk]
  have fD : wk.frozen? ⟨D, j * 4 + 1, none⟩ = false := by
    rw [World.frozen?_of_block (w := wr) (hsame D h1.Dlt)]; exact h1.dfree _
  refine (settle_kept (kpOf l) q wk D (j * 4) S.sectors (gs j) (S.disks.getD j default) hdk2 h1.secM (h1.nD hjl) (by rw [hL]; exact hLm) (fun i hi w' hO => kept_any (hK.only hO hFq hFs) i (by rw [← hL]; exact hi)) (cD 0 (by decide)) (cD 1 (by decide)) fD (cD 2 (by decide))).mono ?_
  rintro e w' ⟨rfl, w2, rfl, hrel⟩
  refine ⟨rfl, ?_⟩
  have hO : Only ((gs j).has) wr w2 := by
    refine Only.trans (F' := setF (gs j)) (w1 := wk) ⟨hb.os, hb.tape, hb.output, hb.size, fun k hk _ => hsame k hk⟩ hrel.only ?_
    intro b hb'
    exact .inl (hb'.elim (fun e => .inr (.inl e.symm)) .inl)
  have hdisk2 := settled_disk (kpOf l) hdk2 hrel
  obtain ⟨F2, hS2, hM2⟩ := turn_only h1 hjl ((S.disks.getD j default).settle (kpOf l)) (.slice none 0 0) (by rw [hdk]; rfl) hO hdisk2 (fun b hb => by cases hb)
  have e := crashTo_succ S ks hj
  unfold keptOf at e
  rw [hl] at e
  rw [e] at hS2
  exact ⟨F2, hS2, hmv.trans hM2⟩
set_option maxRecDepth 20000 in
set_option maxHeartbeats 1600000 in
theorem crash_any (w : World) (p : Nat) (G : Nat → Prop) (A : Option Addr) (n c : Nat) (ks : List (List Int)) {S : Sf} {F : Nat → Prop} (h : Shelf w p S F) (hk : KeepIs w G A n ks) (hG : ∀ b, G b → b < w.heap.size ∧ ¬ F b) (hn : n ≤ 9223372036854775807)
    (hL : ∀ k ∈ S.disks, k.waits.length < 4398046511104) :
    Calls Try.prog 12 #[.pointer (some ⟨p, 0, none⟩), .slice A n c] w fun e w' => e = .returned (.tuple #[]) ∧ Left F w p (S.crash ks) w' := by
  have hst : Left F w p (S.crashTo ks 0) w := ⟨F, by rw [crashTo_zero]; exact h, Moves.refl _ _⟩
  obtain ⟨D0, gs0, h0⟩ := h
  have c2 := h0.c2
  have hm := h0.most
  generalize hkk : S.disks.length = k at *
  have HK := Lib.hid hkk
  have HST := Lib.hid hst
  have HL := Lib.hid hL
  have HG := Lib.hid hG
  clear hkk hst h0 hL hG
  go_enter Try.func12, Try.ntmps12
  go_wp2
  go_loopw [14] (fun i wr => ∃ j : Nat, j ≤ k ∧ i = .int .i64 j ∧ Hid (Left F w p (S.crashTo ks j) wr)) (fun i _ => k - (intOf i).toNat)
  case atStart => exact ⟨0, Nat.zero_le _, rfl, HST⟩
  case round =>
    obtain ⟨j, hj, rfl, hrel⟩ := hrel
    obtain ⟨F1, ⟨D, gs, h1⟩, hmv⟩ := hrel.out
    have c2r := h1.c2
    rw [crashTo_length, HK.out] at c2r
    by_cases hlt : j < k
    · have hjl : j < (S.crashTo ks j).disks.length := by rw [crashTo_length, HK.out]; exact hlt
      have hdk := crashTo_at S ks (j := j) (by rw [HK.out]; exact hlt)
      have hdi := h1.diskOf hjl
      rw [hdk] at hdi
      have hwl : (S.disks.getD j default).waits.length < 4398046511104 := by
        refine HL.out _ ?_
        have : j < S.disks.length := by rw [HK.out]; exact hlt
        simp [List.getD, this]
      obtain ⟨A1, cap1, hv⟩ := own_shape2 hdi.waits
      have d1 := h1.dc hjl (c := 1) (by decide)
      have hd1 : wr.cell? ⟨D, j * 4 + 1, none⟩ = some (.slice A1 (S.disks.getD j default).waits.length cap1) := by rw [d1, ← hv]; rfl
      have hk1 := hk.only hmv.1 HG.out
      have hjS : j < S.disks.length := by rw [HK.out]; exact hlt
      have HR := Lib.hid (fun (wk : World) (q st : Nat) (l : List Int) (hb : Below wr.heap.size wr wk) (hK : Kept wk q st (S.disks.getD j default).waits.length l) (hq : wr.heap.size ≤ q) (hs : wr.heap.size ≤ st) (hl : ks.getD j [] = l) => crash_round h1 hmv hjS hb hK hq hs hl rfl hwl)
      by_cases hjn : j < n
      · obtain ⟨ad, rfl, hab, hcs⟩ := hk1.2 (by omega)
        obtain ⟨A2, m2, cc2, hc1, hm2, hrd, _⟩ := hcs j hjn
        have HKE := Lib.hid (keeper_any wr (S.disks.getD j default).waits.length wr.heap.size A2 m2 cc2 _ hwl hrd (Nat.le_refl _) hm2)
        clear hk hcs hrd hdi hv d1 h1 hmv hdk hjl hk1
        generalize (S.disks.getD j default).waits.length = L at *
        go_wp2_with (first
          | (go_at_call 27; refine HKE.out.mono ?_; rintro e wk ⟨q, st, rfl, hK, hq, hs, hb⟩)
          | (go_at_call 25; refine (HR.out wk q st _ hb hK hq hs rfl).mono ?_; rintro e w' ⟨rfl, hleft⟩))
        go_roundw
        case rel => exact ⟨j + 1, by omega, by go_num, Lib.hid hleft⟩
        case measure => simp [intOf]; omega
      · have hnil : ks.getD j [] = [] := by
          have := hk.1
          simp [List.getD, List.getElem?_eq_none (show ks.length ≤ j by omega)]
        have HKE := Lib.hid (keeper_any wr (S.disks.getD j default).waits.length wr.heap.size none 0 0 [] hwl Reads.none_ (Nat.le_refl _) (by decide))
        clear hk hdi hv d1 h1 hmv hdk hjl hk1
        generalize (S.disks.getD j default).waits.length = L at *
        have HN := Lib.hid hnil
        clear hnil
        have hge : (n : Int) ≤ (j : Int) := by omega
        go_wp2_with (first
          | (go_at_call 27; refine HKE.out.mono ?_; rintro e wk ⟨q, st, rfl, hK, hq, hs, hb⟩)
          | (go_at_call 25; refine (HR.out wk q st _ hb hK hq hs HN.out).mono ?_; rintro e w' ⟨rfl, hleft⟩))
        go_roundw
        case rel => exact ⟨j + 1, by omega, by go_num, Lib.hid hleft⟩
        case measure => simp [intOf]; omega
    · obtain rfl : j = k := by omega
      have c0r := h1.c0
      have c1r := h1.c1
      have f0 := h1.free 0
      have f1 := h1.free 1
      have hroot := cells_set (i := 1) (.int .i64 0) (cells_set (i := 0) (.bool false) h1.root)
      have hO : Only F1 wr ((wr.setCell ⟨p, 0, none⟩ (.bool false)).setCell ⟨p, 1, none⟩ (.int .i64 0)) := ((Only.refl _ _).setCell (.inl h1.inF.1) _).setCell (.inl h1.inF.1) _
      have hend : Left F w p (S.crash ks) ((wr.setCell ⟨p, 0, none⟩ (.bool false)).setCell ⟨p, 1, none⟩ (.int .i64 0)) := by
        refine ⟨F1, ⟨D, gs, ?_⟩, hmv.trans ⟨hO, fun b hb => .inl hb⟩⟩
        have := h1.rooted (w' := (wr.setCell ⟨p, 0, none⟩ (.bool false)).setCell ⟨p, 1, none⟩ (.int .i64 0)) false 0 S.count (by decide) (by rw [hroot]; rfl) (fun b _ hb => by rw [heap_set_other _ _ _ hb, heap_set_other _ _ _ hb]) hO.size
        unfold Sf.crash
        rw [HK.out]
        exact this
      have HE := Lib.hid hend
      clear hend hO hroot h1 hmv hk
      go_wp2
      go_end0
      exact ⟨rfl, HE.out⟩
end Go.Proofs.Ytbkcdomapdflaaa.Sh
