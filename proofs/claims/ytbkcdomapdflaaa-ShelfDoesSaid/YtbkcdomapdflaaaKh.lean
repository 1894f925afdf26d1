/-
  The definition's Flush, done.
  Conditions: the definition's shelf lies in memory.
-/
import Derived.Test.YtbkcdomapdflaaaKg
namespace Go.Proofs.Ytbkcdomapdflaaa.Sh
open Go.RowKit Go.Maps

/-- What is sure of one disk is another list. -/
def Sf.withSure (S : Sf) (d : Nat) (u : List Bs) : Sf := { S with disks := S.disks.set d { S.disks.getD d default with sure := u } }
theorem withSure_self (S : Sf) (d : Nat) : S.withSure d (S.disks.getD d default).sure = S := by
  unfold Sf.withSure
  have : S.disks.set d { S.disks.getD d default with sure := (S.disks.getD d default).sure } = S.disks := set_self S.disks d
  rw [this]
theorem withSure_getD (S : Sf) (d : Nat) (u : List Bs) (hd : d < S.disks.length) : (S.withSure d u).disks.getD d default = { S.disks.getD d default with sure := u } := by
  unfold Sf.withSure
  rw [getD_set _ _ _ _ hd, if_pos rfl]
theorem withSure_set (S : Sf) (d : Nat) (u : List Bs) (hd : d < S.disks.length) (n : Nat) (b : Bs) : (S.withSure d u).setSure d n b = S.withSure d (u.set n b) := by
  unfold Sf.setSure
  rw [withSure_getD S d u hd]
  unfold Sf.withSure Dk.setSure
  simp only [List.set_set]
/-- Some writes of a disk have been laid down; w0: ahead of them. -/
structure Laid (w0 w : World) (q D : Nat) (S : Sf) (F0 : Nat → Prop) (d : Nat) (v : Value) (u : List Bs) (st : Bool) (l : Int) : Prop where
  is_ : ∃ F gs Ls, RefIs w q (S.withSure d u) F D gs Ls st l ∧ (gs d).v = v ∧ (∀ b, F b → F0 b ∨ w0.heap.size ≤ b)
  only : Only F0 w0 w
theorem Laid.start {w : World} {q D : Nat} {S : Sf} {F : Nat → Prop} {gs : Nat → Gr} {Ls : Nat → List (Nat × Bs)} {st : Bool} {l : Int} (h : RefIs w q S F D gs Ls st l) (d : Nat) : Laid w w q D S F d (gs d).v (S.disks.getD d default).sure st l :=
  ⟨⟨F, gs, Ls, by rw [withSure_self]; exact h, rfl, fun b hb => .inl hb⟩, Only.refl _ _⟩
theorem Laid.set {w0 w w' : World} {q D : Nat} {S : Sf} {F0 F : Nat → Prop} {gs : Nat → Gr} {Ls : Nat → List (Nat × Bs)} {d n : Nat} {v : Value} {u : List Bs} {b : Bs} {st : Bool} {l : Int} {g' : Gr} (hO : Only F0 w0 w) (h1 : RefIs w q (S.withSure d u) F D gs Ls st l) (hv : (gs d).v = v) (hF : ∀ b, F b → F0 b ∨ w0.heap.size ≤ b) (hd : d < S.disks.length)
    (hr : RSet w w' q D (S.withSure d u) F gs Ls st l d n b g') : Laid w0 w' q D S F0 d v (u.set n b) st l := by
  have hd2 : d < (S.withSure d u).disks.length := by unfold Sf.withSure; simpa using hd
  refine ⟨⟨_, _, _, by rw [← withSure_set S d u hd n b]; exact hr.is_, by rw [updR, if_pos rfl, hr.v, hv], ?_⟩, ?_⟩
  · rintro b (hb | hb)
    · exact hF b hb
    · rcases hr.new b hb with h | h
      · exact hF b (h1.inF.2.2 d b hd2 h)
      · exact .inr (Nat.le_trans hO.size h)
  · refine hO.trans hr.only (fun b hb => ?_)
    rcases hb with rfl | hb | hb
    · exact hF _ h1.inF.2.1
    · exact hF b (h1.inF.2.2 d b hd2 (.inl hb))
    · exact hF b (h1.inF.2.2 d b hd2 (.inr (.inl hb)))
/-- And then nothing waits any more. -/
theorem Laid.end_ {w0 w : World} {q D : Nat} {S : Sf} {F0 F : Nat → Prop} {gs : Nat → Gr} {Ls : Nat → List (Nat × Bs)} {d : Nat} {u : List Bs} {st : Bool} {l : Int} (hO : Only F0 w0 w) (h1 : RefIs w q (S.withSure d u) F D gs Ls st l) (hF : ∀ b, F b → F0 b ∨ w0.heap.size ≤ b) (hd : d < S.disks.length) :
    ∃ F' gs' Ls', RefIs (w.setCell ⟨D, d * 4 + 2, none⟩ (.slice none 0 0)) q { S with disks := S.disks.set d { sure := u, waits := [], dead := (S.disks.getD d default).dead } } F' D gs' Ls' st l ∧ (∀ b, F' b → F0 b ∨ w0.heap.size ≤ b) ∧ Only F0 w0 (w.setCell ⟨D, d * 4 + 2, none⟩ (.slice none 0 0)) := by
  have hd2 : d < (S.withSure d u).disks.length := by unfold Sf.withSure; simpa using hd
  obtain ⟨h3, h4, h5⟩ := rwaits_end (w2 := w) h1 hd2 (.slice none 0 0) [] (Only.refl _ w) ⟨rfl, .inl ⟨rfl, rfl⟩⟩ (fun x hx => by cases hx) (fun b hb => by cases hb)
  have e : ({ S.withSure d u with disks := (S.withSure d u).disks.set d (((S.withSure d u).disks.getD d default).setWaits []) } : Sf) = { S with disks := S.disks.set d { sure := u, waits := [], dead := (S.disks.getD d default).dead } } := by
    rw [withSure_getD S d u hd]
    unfold Sf.withSure Dk.setWaits
    simp only [List.set_set]
  refine ⟨_, _, _, e ▸ h3, ?_, hO.trans h4 (fun b hb => hF b hb)⟩
  rintro b (hb | hb)
  · exact hF b hb
  · rcases h5 b hb with h | h
    · exact hF b (h1.inF.2.2 d b hd2 h)
    · exact .inr (Nat.le_trans hO.size h)
set_option maxRecDepth 20000 in
set_option maxHeartbeats 1600000 in
theorem rflush_done {w : World} {q D : Nat} {S : Sf} {F : Nat → Prop} {gs : Nat → Gr} {Ls : Nat → List (Nat × Bs)} {st : Bool} {l : Int} (h : RefIs w q S F D gs Ls st l) (d : Nat) (hd : d < S.disks.length) (hy : why S d = 0) (hL : (S.disks.getD d default).waits.length ≤ 4398046511104) :
    Calls Try.prog 31 #[.pointer (some ⟨q, 0, none⟩), .int .i64 d] w fun e w' => e = .returned (.int .i64 0) ∧ RLeft F w q (S.doFlush d) w' := by
  have ho : S.off = false := by
    unfold why at hy
    cases h : S.off
    · rfl
    · rw [h, if_pos rfl] at hy; cases hy
  have hc := Lib.hid (rhas_yes h d 0 hd h.sec1)
  have hw := Lib.hid (rwhy_any h d hd hy)
  have hsp := Lib.hid (rspend_any h ho)
  have hF : F q := h.inF.1
  have hFF := h.ltF
  have hm := h.most
  obtain ⟨A, nW, ca, hva, hnW⟩ : ∃ A nW ca, (gs d).v = .slice A nW ca ∧ nW = (S.disks.getD d default).waits.length := by
    obtain ⟨A, ca, hva⟩ := own_shape2 (h.disk d hd).waits
    exact ⟨A, _, ca, hva, rfl⟩
  have HNW := Lib.hid hnW
  clear hy h hnW
  go_enter Try.func31, Try.ntmps31
  go_wp2_with (first
    | (go_at_call 47; refine hc.out.mono ?_; rintro e w' ⟨rfl, rfl⟩)
    | (go_at_call 48; refine hw.out.mono ?_; rintro e w' ⟨rfl, rfl⟩)
    | (go_at_call 50; refine hsp.out.mono ?_; rintro e w1 ⟨rfl, hO1, h1⟩; have c0 := h1.c0; have k2 := h1.dc (d := d) hd (c := 2) (by decide); simp only [diskR] at k2 c0; rw [hva] at k2))
  clear hc hw hsp
  generalize (if st = true then l - 1 else l) = l2 at *
  have hnW := HNW.out
  clear HNW
  have hwt := (h1.disk d hd).waits
  have hfit := (h1.disk d hd).fits
  have hst := Laid.start h1 d
  have hDl := h1.Dlt
  have hvD : ∀ b, (gs d).v.ownBlock = some b → ¬ (b = D) := fun b hb e => h1.nD hd (.inr (.inr (by rw [hb, e])))
  have HH1 := Lib.hid h1
  rw [hva] at hwt hst hvD
  clear hva h1
  simp only at hst
  generalize hS1 : ({ disks := S.disks, sectors := S.sectors, count := wrap64 (S.count + 1), off := offAt S.left S.off, left := S.left - 1 } : Sf) = S1 at *
  have hdk : S1.disks = S.disks := by rw [← hS1]
  have HS1 := Lib.hid hS1
  have HO1 := Lib.hid hO1
  have HST := Lib.hid hst
  have HFIT := Lib.hid hfit
  have HWT := Lib.hid hwt
  have HDK := Lib.hid hdk
  clear hS1 hO1 hst hfit hwt hdk
  generalize hu0 : (S.disks.getD d default).sure = u0 at *
  have hd1 : d < S1.disks.length := by rw [HDK.out]; exact hd
  have hWe : (S1.disks.getD d default).waits = (S.disks.getD d default).waits := by rw [HDK.out]
  generalize hWW : (S.disks.getD d default).waits = W at *
  subst hnW
  rw [hWe] at HFIT HWT
  have HWW := Lib.hid hWW
  have HWE := Lib.hid hWe
  have HU := Lib.hid hu0
  clear c0 k2 hWW hWe hu0
  go_loopw [7] (fun i wr => ∃ j : Nat, j ≤ W.length ∧ i = .int .i64 j ∧ Hid (Laid w1 wr q D S1 F d (.slice A W.length ca) (stlTo (fun _ => true) W j u0) st l2)) (fun i _ => W.length - (intOf i).toNat)
  case atStart => exact ⟨0, Nat.zero_le _, rfl, HST⟩
  case round =>
    obtain ⟨j, hj, rfl, hrel⟩ := hrel
    obtain ⟨⟨Fr, gr, Lr, hr, hv, hFr⟩, hOr⟩ := hrel.out
    have hdr : d < (S1.withSure d (stlTo (fun _ => true) W j u0)).disks.length := by unfold Sf.withSure; simpa using hd1
    have hlr : (S1.withSure d (stlTo (fun _ => true) W j u0)).disks.length = S.disks.length := by unfold Sf.withSure; simp [HDK.out]
    have hwr := (hr.disk d hdr).waits
    rw [withSure_getD S1 d _ hd1, hv] at hwr
    have hwr : wr.ownsRow 0 92 2 (.slice A W.length ca) W.length (flat W) := by
      have e : ({ S1.disks.getD d default with sure := stlTo (fun _ => true) W j u0 } : Dk).waits = W := HWE.out
      rw [e] at hwr
      exact hwr
    by_cases hlt : j < W.length
    · obtain ⟨n2, b2, hjw⟩ : ∃ n2 b2, W[j]? = some (n2, b2) := ⟨_, _, List.getElem?_eq_getElem hlt⟩
      obtain ⟨gv, cap2, he, _, hlc, hcm⟩ := own_form hwr (by omega)
      simp only [Value.slice.injEq, true_and] at he
      obtain ⟨rfl, rfl⟩ := he
      have hfl := flat_at _ _ _ _ hjw
      have x0 := cell_at hwr hfl.1
      have x1 := cell_at hwr hfl.2
      have hmem := HFIT.out _ (List.mem_of_getElem? hjw)
      have HSE := Lib.hid (rset_any (hr.only (w' := wr.drew) (G := fun _ => False) ((Only.refl _ _).drew) (fun _ _ e => e)) d n2 b2 hdr hmem.1 hmem.2)
      have HN := Lib.hid (fun w' g' hs => Laid.set (n := n2) (b := b2) (w' := w') (g' := g') hOr.drew (hr.only (w' := wr.drew) (G := fun _ => False) ((Only.refl _ _).drew) (fun _ _ e => e)) hv hFr hd1 hs)
      have HJ := Lib.hid hjw
      have HB := Lib.hid (show sv b2 = .string (strL b2) from rfl)
      rw [HB.out] at HSE
      change _ = some (Value.string (strL b2)) at x1
      generalize strL b2 = s2 at *
      clear hwr hfl hmem hr hFr hOr hjw hv hrel
      go_wp2
      go_still_tail 12, (by kernel_rfl)
      change wpList _ _ _ _ _ wr.drew
      go_wp2_with (go_at_call 51; refine HSE.out.mono ?_; rintro e w2 ⟨rfl, g', hset⟩)
      go_roundw
      case rel =>
        refine ⟨j + 1, by omega, by go_num, Lib.hid ?_⟩
        rw [stlTo_succ _ _ _ _ HJ.out, if_pos rfl]
        exact HN.out _ _ hset
      case measure => simp [intOf]; omega
    · obtain rfl : j = W.length := by omega
      have c0 := hr.c0
      have f2 := hr.dfree (d * 4 + 2)
      have k2 := hr.dc hdr (c := 2) (by decide)
      rw [hlr] at c0
      simp only [diskR] at k2
      obtain ⟨F', gs', Ls', h2, hF2, hO2⟩ := Laid.end_ hOr hr hFr hd1
      have hend : RLeft F w q (S.doFlush d) (wr.setCell ⟨D, d * 4 + 2, none⟩ (.slice none 0 0)) := by
        have e : S.doFlush d = { S1 with disks := S1.disks.set d { sure := stlTo (fun _ => true) W W.length u0, waits := [], dead := (S1.disks.getD d default).dead } } := by
          rw [← HS1.out]
          unfold Sf.doFlush Dk.settle
          rw [HWW.out, HU.out, stlTo_all]
        have h3 : Ref (wr.setCell ⟨D, d * 4 + 2, none⟩ (.slice none 0 0)) q (S.doFlush d) F' := by rw [e]; exact ⟨_, _, _, _, _, h2⟩
        exact ⟨F', h3, (HO1.out.mono fun b hb => by rw [hb]; exact hF).trans hO2 (fun b hb => .inl hb), fun b hb => (hF2 b hb).imp id (fun e => Nat.le_trans HO1.out.size e)⟩
      have HE := Lib.hid hend
      clear hend h2 hF2 hO2 hwr hr hFr hOr hv hrel
      go_wp2
      go_ret
      exact ⟨rfl, HE.out⟩
end Go.Proofs.Ytbkcdomapdflaaa.Sh
