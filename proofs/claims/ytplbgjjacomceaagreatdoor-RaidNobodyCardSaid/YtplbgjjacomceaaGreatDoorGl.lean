/-
  raid: lives, the frame.
  Conditions: each theorem's own.
-/
import Derived.Test.YtplbgjjacomceaaGreatDoorGk
import Derived.Test.YtplbgjjacomceaaGreatDoorCards
import Derived.Test.YtplbgjjacomceaaGreatDoorTie
import Derived.ProofKit
import Derived.OpenShut
import Derived.ChangeOld
import Derived.ChangeSlices
import Derived.SizedLaws
import Derived.Deep.DeepHandedRow
import Derived.Lib.LaidTab
namespace Go.Proofs.YtplbgjjacomceaaGreatDoor.U
open Go.RowKit Go.Maps

theorem blk40' : blk 40 = 37 := by decide
section
variable {J : Vk} {w w' : World} {s : Go.Proofs.YtplbgjjacomceaaGreatDoor.S.Sup} {o : Nat → Int} {S : Sh.Sf} {F : Nat → Prop} {D U : Set0} {M St : Nat}
theorem Vr.cv (h : Vr J w s o S F D U) (hc : Calms S J.n) (hj : ∀ d, d < J.n → Jp S d (o d) (fun _ => True)) (hn : S.disks.length = J.n) : Cv S J.n o (fun d => vals (dk S d)) :=
  ⟨hc, hj, fun _ _ => rfl, fun d hd _ hk => V_sec h.vo.ds.on.shelf (hj d hd).one.lt (sum_of_lt hk).1, hn⟩
/-- A disk is killed. -/
theorem vkill (h : Vr J w s o S F D U) (d : Nat) (hd : d < S.disks.length) : Calls Tryz.prog 29 #[.pointer (some ⟨J.p, 0, none⟩), .int .i64 d] w fun e w' => e = .returned (.int .i64 0) ∧ RGoes J w w' s o (S.doKill d) F D U := by
  refine (Sh.kill_done w J.p d h.vo.ds.on.shelf hd).mono ?_
  rintro e w' ⟨rfl, hl⟩
  exact ⟨rfl, h.goesV (h.vo.goes (h.vo.ds.left hl))⟩
theorem numOf_id {s : Go.Proofs.YtplbgjjacomceaaGreatDoor.S.Sup} (hs : s.spare = -1) (M st m : Nat) : numOf s M st m = m := by
  unfold numOf
  rw [if_neg]
  rw [hs]
  omega
theorem kill_len (S : Sh.Sf) (d : Nat) : (S.doKill d).disks.length = S.disks.length := by
  unfold Sh.Sf.doKill
  simp
theorem kill_lens {S : Sh.Sf} {m : Nat} (h : ∀ x ∈ S.disks, x.waits.length ≤ m) (d : Nat) : ∀ x ∈ (S.doKill d).disks, x.waits.length ≤ m := by
  intro x hx
  unfold Sh.Sf.doKill at hx
  rcases List.mem_or_eq_of_mem_set hx with hx | rfl
  · exact h x hx
  · show (S.disks.getD d default).waits.length ≤ m
    by_cases hd : d < S.disks.length
    · exact h _ (Sh.getD_mem hd)
    · rw [List.getD_eq_getElem?_getD, List.getElem?_eq_none (by omega)]
      exact Nat.zero_le _
theorem kill_is (S : Sh.Sf) (d : Nat) (hd : d < S.disks.length) : (dk (S.doKill d) d).dead = true := by
  unfold dk Sh.Sf.doKill
  simp [List.getD, hd]
/-- What a slice that is beside a volume's blocks is as a text. -/
theorem conv_bytes {w0 w : World} {A : Option Addr} {c : Nat} {l : Sh.Bs} {s : ByteArray} (h : Sh.Bytes w0 w A l) (hs : Sh.strL l = s) (W : World) (hb : Below w.heap.size w W) : (convert 45 9 (.slice A 128 c)).run Tryz.prog W = .ok (.string s) W :=
  Sh.conv_grown (F := fun _ => False) ⟨h.1, fun _ _ e => e⟩ hs W hb
end
/-- Which slots are used behind a call. -/
def UsedOf (U U' : Set0) : Prop := U' = U ∨ U' = noSet ∨ (∃ kl, U' = U.put kl one0) ∨ ∃ kl, U' = noSet.put kl one0
theorem FlR.usedOf {n L : Nat} {D U D' U' : Set0} {S : Sh.Sf} {y : Int} {b : Stt} (h : FlR n L D U S y b D' U') : U' = U ∨ U' = noSet := by
  cases h with
  | first o' h => exact .inl rfl
  | slots o1 y b h1 h2 h3 h4 => exact .inl rfl
  | again o1 o' b h1 h2 h3 h4 => exact .inl rfl
  | none o' h1 h2 => exact .inr rfl
  | all o1 o' b h1 h2 h3 h4 => exact .inr rfl
theorem RecR.usedOf {n L d : Nat} {l hd : Sh.Bs} {a b : Stt} {D U D' U' : Set0} {y : Int} (h : RecR n L d l hd a D U y b D' U') : UsedOf U U' := by
  rcases h with ⟨_, _, rfl, _⟩ | ⟨_, y1, a1, D1, U1, h1, ⟨_, _, _, _, rfl⟩ | ⟨_, _, rfl, _⟩⟩
  · exact .inr (.inr (.inl ⟨_, rfl⟩))
  · exact h1.usedOf.imp id .inl
  · rcases h1.usedOf with rfl | rfl
    · exact .inr (.inr (.inl ⟨_, rfl⟩))
    · exact .inr (.inr (.inr ⟨_, rfl⟩))
theorem WrT.usedOf {nn LL M k st a pl b : Nat} {s : Go.Proofs.YtplbgjjacomceaaGreatDoor.S.Sup} {x : Sh.Bs} {D U D' U' : Set0} {t e : Stt} {y : Int} (h : WrT nn LL s M k st a pl b x D U t y e D' U') : UsedOf U U' := by
  cases h with
  | io => exact .inl rfl
  | data => exact .inl rfl
  | par _ _ _ _ _ _ hw => cases hw with
    | lack => exact .inl rfl
    | done => exact .inl rfl
  | both _ _ _ _ _ _ hw => cases hw with
    | lack => exact .inl rfl
    | recd _ _ _ _ _ hr => exact hr.usedOf
    | data _ _ _ _ _ _ _ hr => exact hr.usedOf
    | both _ _ _ _ _ _ _ _ _ hr => exact hr.usedOf
theorem WrR.usedOf {nn LL M St : Nat} {s : Go.Proofs.YtplbgjjacomceaaGreatDoor.S.Sup} {n : Int} {x : Sh.Bs} {D U D' U' : Set0} {S : Sh.Sf} {o : Nat → Int} {e : Stt} {y : Int} (h : WrR nn LL s M St n x D U S o y e D' U') : UsedOf U U' := by
  cases h with
  | refused => exact .inl rfl
  | flush _ _ _ _ _ _ _ _ _ hf => exact hf.usedOf.imp id .inl
  | after _ _ _ _ _ _ _ _ _ _ _ _ hf hw =>
    rcases hf.usedOf with rfl | rfl
    · exact hw.usedOf
    · rcases hw.usedOf with e | e | e | e
      · exact .inr (.inl e)
      · exact .inr (.inl e)
      · exact .inr (.inr (.inr e))
      · exact .inr (.inr (.inr e))
  | first _ _ _ _ _ _ _ _ _ hw => exact hw.usedOf
theorem size_noput (w : World) (kl : Lit) : Maps.size (DataW.put noSet kl one0) ≤ 1 := size_put_le (empty_set (k := 157) (heap_alloc_new w (.map #[] 0))) lawSlot
theorem UsedOf.size {U U' : Set0} {w : World} {b : Nat} (h : UsedOf U U') (hs : SetIs w 157 b U) : Maps.size U' ≤ Maps.size U + 1 := by
  rcases h with rfl | rfl | ⟨kl, rfl⟩ | ⟨kl, rfl⟩
  · omega
  · exact Nat.zero_le _
  · exact size_put_le hs lawSlot
  · have := size_noput w kl
    omega
theorem xorL_ext {a b : List Nat} (hl : a.length = b.length) (h : ∀ i, i < a.length → a.getD i 0 = b.getD i 0) : a = b := by
  refine List.ext_getElem hl fun i h1 h2 => ?_
  have := h i h1
  simpa [List.getD, h1, h2] using this
theorem xorL_len (a b : List Nat) : (xorL a b).length = a.length := by unfold xorL; rw [tab_length]
theorem xorL_at (a b : List Nat) (i : Nat) (h : i < a.length) : (xorL a b).getD i 0 = a.getD i 0 ^^^ b.getD i 0 := by
  unfold xorL
  exact tab_get _ _ _ h
theorem noughts_at (i : Nat) : Sh.noughts.getD i 0 = 0 := by
  unfold Sh.noughts
  rw [List.getD_eq_getElem?_getD, List.getElem?_replicate]
  split <;> rfl
/-- A block is the other data and the parity, put together. -/
theorem back3 {p x : Sh.Bs} (hx : Sh.Sec x) : xorL (xorL Sh.noughts (xorL (xorL Sh.noughts p) x)) p = x := by
  have h0 : Sh.noughts.length = 128 := Sh.noughts_sec.1
  refine xorL_ext (by rw [xorL_len, xorL_len, h0, hx.1]) fun i hi => ?_
  rw [xorL_len, xorL_len, h0] at hi
  rw [xorL_at _ _ _ (by rw [xorL_len, h0]; exact hi), xorL_at _ _ _ (by rw [h0]; exact hi), xorL_at _ _ _ (by rw [xorL_len, h0]; exact hi), xorL_at _ _ _ (by rw [h0]; exact hi), noughts_at, Nat.zero_xor, Nat.zero_xor, Nat.xor_comm (p.getD i 0) (x.getD i 0), Nat.xor_assoc, Nat.xor_self, Nat.xor_zero]
/-- A new array of three members. -/
theorem born_fits {S : Sh.Sf} {n : Nat} (hn : n = 3) (h1 : S.disks.length = n) (h2 : S.sectors = 40) : Fits n 1 (newSaid 3 2 1) 3 2 S :=
  ⟨rfl, rfl, rfl, by decide, by decide, by decide, by decide, by decide, by decide, .inl hn, .inl rfl, ⟨by decide, by decide⟩, h1, by rw [h2, blk40']; decide⟩
/-- What is read of the dead member's block is what was written. -/
theorem three {v v' : Nat → Nat → Sh.Bs} {x : Sh.Bs} (hx : Sh.Sec x) (h : Wrv (newSaid 3 2 1) 1 3 5 1 0 1 x v v') : pV (newSaid 3 2 1) 3 5 1 (tkNot 0) v' 3 = x := by
  have h0 : ∀ m, numOf (newSaid 3 2 1) 3 1 m = m := fun m => numOf_id rfl 3 1 m
  have hpar := h.par
  have h2 := h.rest 2 5 (by decide)
  rw [h0, h0] at h2
  rw [h0] at hpar
  have e2 : v' 2 5 = v 2 5 := by
    rcases h2 with ⟨e, _⟩ | e
    · omega
    · exact e
  have e1 : pV (newSaid 3 2 1) 3 5 1 (tkNeither 0 1) v 3 = xorL Sh.noughts (v 2 5) := by
    simp [pV, tkNeither, h0]
  rw [e1] at hpar
  have e3 : pV (newSaid 3 2 1) 3 5 1 (tkNot 0) v' 3 = xorL (xorL Sh.noughts (v' 1 5)) (v' 2 5) := by
    simp [pV, tkNot, h0]
  rw [e3, hpar, e2]
  exact back3 hx
theorem wrv_on {s : Go.Proofs.YtplbgjjacomceaaGreatDoor.S.Sup} {L M k st a b : Nat} {x : Sh.Bs} {v v1 v2 : Nat → Nat → Sh.Bs} (h : Wrv s L M k st a b x v v1) (hg : Agree L v1 v2) (hk : 2 + 2 * L ≤ k := by decide) : Wrv s L M k st a b x v v2 :=
  ⟨(hg _ _ hk).trans h.data, (hg _ _ hk).trans h.par, fun d j hj => (h.rest d j hj).imp id fun e => (hg d j hj).trans e⟩
theorem field_st (x0 x1 x2 x3 x4 x5 : Value) (w : World) : (Instr.field 74 (.agg #[x0, x1, x2, x3, x4, x5]) 2).run Tryz.prog w = .ok x2 w := by kernel_rfl
set_option maxRecDepth 100000 in
set_option maxHeartbeats 8000000 in
theorem lives_true (w : World) (hT : Tabs w) (hFl : Flds w) (hWi : Go.Proofs.YtplbgjjacomceaaGreatDoor.S.Wid w) : Calls Tryz.prog 15 #[] w fun e w' => e = .returned (.bool true) ∧ Below w.heap.size w w' := by
  have hTB := hT.size
  have hFB := hFl.size
  have hWB := hWi.size
  go_enter Tryz.func15, Tryz.ntmps15
  go_wp2_with fail
  refine (Sh.new_ok 3 40 w (by decide) (by decide) (by decide) (by decide)).mono ?_
  rintro e w1 ⟨p, F1, rfl, hS, hF, hb⟩
  have a1 : Sh.At w.heap.size w w1 p (Sh.newSf 3 40) F1 := ⟨hS, hF, hb, hb.size⟩
  have HC := Lib.hid (create_new a1 hT hTB hWi hWB 3 2 1 (by decide) (by decide) (by decide) (by decide) (by decide) (by decide) (.inl rfl) (by rw [blk40']; decide))
  clear hS hF hb a1
  go_wp2_with fail
  refine HC.out.mono ?_
  rintro e w2 ⟨J, F2, o2, S2, rfl, hB, hW, rfl, hn, hL, V2, hbn, _⟩
  have hFi := born_fits (S := S2) hn (hbn.len.trans hn.symm) hbn.sectors
  have hcv := V2.cv (by rw [hn]; exact hbn.calm) (fun d hd => ((hbn.disk d (by rw [← hn]; exact hd)).1).more fun _ _ => trivial) (hbn.len.trans hn.symm)
  have hTJ : Tabs J.W := by rw [hW]; exact hT
  have hFJ : Flds J.W := by rw [hW]; exact hFl
  rw [← hB] at hTB hFB
  have HF2 : Hid (Fits J.n J.L (newSaid 3 2 1) 3 2 S2) := Lib.hid (by rw [hL]; exact hFi)
  have HK2 := Lib.hid (And.intro V2 (And.intro hcv hbn.waits))
  have HJ := Lib.hid (And.intro hB (And.intro hW (And.intro hn hL)))
  have HSC := Lib.hid hbn.sectors
  have HSL : Hid (S2.disks.length = J.n) := Lib.hid (hbn.len.trans hn.symm)
  clear V2 hbn hFi hcv HC hB hW hn hL
  go_wp2_with fail
  refine (Sh.sector_any w2 8 (by decide)).mono ?_
  rintro e w3 ⟨rfl, ho3, hb3⟩
  have V3 := HK2.out.1.grown hb3
  have hsec : Sh.Sec (Sh.secOf 8) := Sh.secOf_sec (by decide)
  have hbs : Sh.Beside w3 (AllV J F2) (some ⟨w2.heap.size, 0, none⟩) (Sh.secOf 8) := ⟨Sh.Reads.of_own ho3, fun x hx e => by
    injection hx with hx
    subst hx
    exact Nat.lt_irrefl _ (HK2.out.1.lt _ e)⟩
  generalize hS8 : Sh.strL (Sh.secOf 8) = s8 at *
  have HS8 := Lib.hid hS8
  generalize hx8 : Sh.secOf 8 = x8 at *
  have HXE := Lib.hid hx8
  clear hx8
  have HW := Lib.hid (vWrite_any V3 HF2.out hTJ hTB hFJ hFB 3 (c := 128) hsec hbs HK2.out.2.2 (mm := 100) (by decide) (by decide) (by decide))
  have HX8 := Lib.hid hsec
  clear V3 hbs ho3 hb3 hsec
  go_wp2_with fail
  refine HW.out.mono ?_
  rintro e w4 ⟨y4, rfl, t4, D4, U4, hw4, F4, V4, m4⟩
  obtain ⟨rfl, v4, c4, s4, wv4⟩ := HK2.out.2.1.wr (m := 3) HF2.out (by have := HJ.out; omega) hw4 (by decide) (by decide) (by decide) (by rw [numOf_id rfl, numOf_id rfl]; decide) (by decide) HX8.out
  have hz4 := hw4.usedOf.size HK2.out.1.used
  have HF4 : Hid (Fits J.n J.L (newSaid 3 2 1) 3 2 t4.S) := Lib.hid (HF2.out.same (c4.cnt.trans HSL.out.symm) s4)
  have HFL := Lib.hid (vFlush_any V4 HF4.out hTJ hTB (mm := 100) (fun x hx => Nat.le_trans (c4.lens x hx) (by decide)) (Nat.le_trans hz4 (by decide)) (by decide))
  have HK4 := Lib.hid (And.intro c4 (And.intro wv4 s4))
  clear hw4 V4 m4 c4 s4 wv4 hz4 HW HF2
  go_wp2_with fail
  refine HFL.out.mono ?_
  rintro e w5 ⟨y5, rfl, t5, D5, U5, hf5, F5, V5, m5⟩
  obtain ⟨rfl, _, v5, c5, g5, s5⟩ := HK4.out.1.flR hf5 (by have := HF4.out.need; omega)
  have HK5 := Lib.hid (And.intro c5 (And.intro g5 (s5.trans HK4.out.2.2)))
  have HF5 : Hid (Fits J.n J.L (newSaid 3 2 1) 3 2 t5.S) := Lib.hid (HF4.out.same (c5.cnt.trans HK4.out.1.cnt.symm) s5)
  have HKI := Lib.hid (vkill V5 0 (by rw [c5.cnt, HJ.out.2.2.1]; decide))
  clear hf5 V5 m5 c5 g5 s5 HFL
  go_wp2_with fail
  refine HKI.out.mono ?_
  rintro e w6 ⟨rfl, F6, V6, m6⟩
  have HF6 : Hid (Fits J.n J.L (newSaid 3 2 1) 3 2 (t5.S.doKill 0)) := Lib.hid (HF5.out.same (kill_len _ _) rfl)
  have HR := Lib.hid (vRead_any V6 HF6.out hTJ hTB 3 (mm := 100) (kill_lens (fun x hx => Nat.le_trans (HK5.out.1.lens x hx) (by decide)) 0) (by decide))
  clear V6 m6 HKI
  go_wp2_with fail
  refine HR.out.mono ?_
  rintro e w7 ⟨y7, A7, n7, c7, rfl, X7, t7, F7, hr7, V7, m7, hX7⟩
  have HRD := Lib.hid (HK5.out.1.rd_dead (m := 3) HF5.out (d := 0) (by rw [HJ.out.2.2.1]; decide) hr7 (by decide) (numOf_id rfl _ _ _) (by decide) (fun j hj hne => by rw [numOf_id rfl]; exact hne))
  obtain ⟨rfl, hX, hs7, ho7⟩ := HRD.out
  have hwv : Wrv (newSaid 3 2 1) 1 3 5 1 0 1 x8 (fun d => vals (dk S2 d)) v4 := by
    have := HK4.out.2.1
    rw [HJ.out.2.2.2] at this
    exact this
  have hX8 : X7 = x8 := by
    have h3 := three HX8.out (wrv_on hwv (by have := HK5.out.2.1; rw [HJ.out.2.2.2] at this; exact this))
    rw [hX, HJ.out.2.2.2]
    exact h3
  obtain ⟨n7e, hby7, _, hap7⟩ : n7 = 128 ∧ Sh.Bytes w6 w7 A7 X7 ∧ Sh.Sec X7 ∧ ∀ a, A7 = some a → ¬ AllV J F7 a.block := by
    rcases hX7 with ⟨_, h2, h3, h4, h5⟩ | ⟨h1, _⟩
    · exact ⟨h2, h3, h4, h5⟩
    · exact absurd rfl h1
  subst n7e
  rw [hX8] at hby7
  have HF7 : Hid (Fits J.n J.L (newSaid 3 2 1) 3 2 t7.S) := Lib.hid (HF6.out.same hs7.len hs7.sectors)
  have HWH := Lib.hid (whole_any V7 HF7.out hTJ hTB 0 (by decide))
  have hlack : (tog (newSaid 3 2 1) 3 (2 + 2 * J.L + 0) 0 (fun _ => true) t7.S 3).2.2 = 10 := tog_lack (j := 0) rfl rfl (.inl (by rw [hs7.rdY, numOf_id rfl]; exact HK5.out.1.kill_dead (by rw [HJ.out.2.2.1]; decide))) (by decide)
  have hsame8 : Same t7.S (tog (newSaid 3 2 1) 3 (2 + 2 * J.L + 0) 0 (fun _ => true) t7.S 3).1 := tog_same 3
  generalize tog (newSaid 3 2 1) 3 (2 + 2 * J.L + 0) 0 (fun _ => true) t7.S 3 = r8 at *
  obtain ⟨S8, X8r, y8⟩ := r8
  simp only at hlack hsame8
  subst hlack
  have hwv8 : wholeV (S8, X8r, 10) = .tuple #[.bool false, .int .i64 0] := rfl
  rw [hwv8] at HWH
  have HB7 := Lib.hid (And.intro hby7 hap7)
  have HS7 := Lib.hid (And.intro hs7 hsame8)
  clear hr7 V7 m7 hX7 hX hs7 ho7 hwv hX8 hby7 hap7 hsame8 hwv8 HR HRD
  go_wp2_with fail
  refine HWH.out.mono ?_
  rintro e w8 ⟨rfl, V8, on8⟩
  have hby8 := bytes_only HB7.out.1 HB7.out.2 on8
  have hs8 := HS7.out.1.trans HS7.out.2
  have HF8 : Hid (Fits J.n J.L (newSaid 3 2 1) 3 2 S8) := Lib.hid (HF7.out.same HS7.out.2.len HS7.out.2.sectors)
  have hdead : ∀ m, m < 3 → memDead (newSaid 3 2 1) 3 2 S8 m = decide (m = 0) := fun m hm => by
    unfold memDead
    rw [numOf_id rfl, numOf_id rfl, Bool.or_self]
    have e : dk S8 m = dk (t5.S.doKill 0) m := by unfold dk; rw [hs8.disks]
    rw [e]
    by_cases h0 : m = 0
    · subst h0
      rw [kill_is _ _ (by rw [HK5.out.1.cnt, HJ.out.2.2.1]; decide)]
      rfl
    · rw [dk_kill _ _ _ h0, decide_eq_false h0]
      exact (HK5.out.1.calm m (by rw [HJ.out.2.2.1]; exact hm)).alive
  have hlen : (deads (newSaid 3 2 1) 3 2 S8 3).length = 1 := by
    simp [deads, List.range_succ, hdead]
  have HSZ : Hid (∀ W, Below w8.heap.size w8 W → Calls Tryz.prog 38 #[.pointer (some ⟨J.v, 0, none⟩)] W fun e w' => e = .returned (.int .i64 4) ∧ Below W.heap.size W w') := Lib.hid fun W hb => vsize (V8.grown hb) HF8.out
  have HST : Hid (∀ W, Below w8.heap.size w8 W → Calls Tryz.prog 39 #[.pointer (some ⟨J.v, 0, none⟩)] W fun e w' => ∃ (A : Option Addr) (c : Nat), e = .returned (.agg #[.int .i64 3, .int .i64 2, .slice A 1 c, .int .i64 (-1), .int .i64 0, .int .i64 0]) ∧ Below W.heap.size W w') := Lib.hid fun W hb => by
    have := status_any (V8.grown hb) HF8.out
    rw [hlen] at this
    exact this
  have t1 := fun W (hb : Below w8.heap.size w8 W) => conv_bytes (c := c7) hby8 HS8.out W hb
  have HB8 : Hid (Below w.heap.size w w8) := Lib.hid (by have := V8.bel; rw [HJ.out.1, HJ.out.2.1] at this; exact this)
  have hfs := field_st
  clear hby8 hs8 hdead hlen V8 on8 HWH
  go_wp2_with fail
  refine wp_region_held_drew (S := fun W' => Below w8.heap.size w8 W') (by kernel_rfl) (drew_below w8) (fun hHeld => ?_)
  refine wpAnyH_take (i := 0) (oi := ⟨some 47, _, _, _, _, _⟩) (v := ?_) rfl (by kernel_rfl) (by kernel_rfl) (by kernel_rfl) (fun _ _ _ h => h) (Or.inl ⟨by rfl, ?_⟩) (by assumption) ?_
  rotate_left
  · (intro w hSw; (try dsimp only at hSw); go_simp; first | done | with_reducible rfl)
  try simp only [Act.put, List.setIfInBounds_toArray, List.set_cons_zero, List.set_cons_succ]
  refine wpAnyH_ready (rs := [1]) (by kernel_rfl) (by simp) ?_
  refine AllReadyH.cons (o := ⟨some 48, _, _, _, _, _⟩) rfl (fun K hK => ?_) AllReadyH.nil
  go_simp
  refine (HSZ.out _ hHeld).mono ?_
  rintro e w9 ⟨rfl, hb9⟩
  refine hK.out _ _ (hHeld.trans (hb9.mono hHeld.size)) (fun hHeld => ?_)
  clear hK K
  try simp only [Act.put, List.setIfInBounds_toArray, List.set_cons_zero, List.set_cons_succ]
  refine wpAnyH_take (i := 2) (oi := ⟨some 49, _, _, _, _, _⟩) (v := ?_) rfl (by kernel_rfl) (by kernel_rfl) (by kernel_rfl) (fun _ _ _ h => h) (Or.inl ⟨by rfl, ?_⟩) (by assumption) ?_
  rotate_left
  · (intro w hSw; (try dsimp only at hSw); go_simp; first | done | with_reducible rfl)
  try simp only [Act.put, List.setIfInBounds_toArray, List.set_cons_zero, List.set_cons_succ]
  refine wpAnyH_take (i := 3) (oi := ⟨some 50, _, _, _, _, _⟩) (v := ?_) rfl (by kernel_rfl) (by kernel_rfl) (by kernel_rfl) (fun _ _ _ h => h) (Or.inl ⟨by rfl, ?_⟩) (by assumption) ?_
  rotate_left
  · (intro w hSw; (try dsimp only at hSw); go_simp; first | done | with_reducible rfl)
  try simp only [Act.put, List.setIfInBounds_toArray, List.set_cons_zero, List.set_cons_succ]
  refine wpAnyH_take (i := 4) (oi := ⟨some 51, _, _, _, _, _⟩) (v := ?_) rfl (by kernel_rfl) (by kernel_rfl) (by kernel_rfl) (fun _ _ _ h => h) (Or.inl ⟨by rfl, ?_⟩) (by assumption) ?_
  rotate_left
  · (intro w hSw; (try dsimp only at hSw); go_simp; first | done | with_reducible rfl)
  try simp only [Act.put, List.setIfInBounds_toArray, List.set_cons_zero, List.set_cons_succ]
  refine wpAnyH_take (i := 5) (oi := ⟨some 52, _, _, _, _, _⟩) (v := ?_) rfl (by kernel_rfl) (by kernel_rfl) (by kernel_rfl) (fun _ _ _ h => h) (Or.inl ⟨by rfl, ?_⟩) (by assumption) ?_
  rotate_left
  · (intro w hSw; (try dsimp only at hSw); go_simp; first | done | with_reducible rfl)
  try simp only [Act.put, List.setIfInBounds_toArray, List.set_cons_zero, List.set_cons_succ]
  refine wpAnyH_take (i := 6) (oi := ⟨some 53, _, _, _, _, _⟩) (v := ?_) rfl (by kernel_rfl) (by kernel_rfl) (by kernel_rfl) (fun _ _ _ h => h) (Or.inl ⟨by rfl, ?_⟩) (by assumption) ?_
  rotate_left
  · (intro w hSw; (try dsimp only at hSw); go_simp; first | done | with_reducible rfl)
  try simp only [Act.put, List.setIfInBounds_toArray, List.set_cons_zero, List.set_cons_succ]
  refine wpAnyH_take (i := 7) (oi := ⟨some 54, _, _, _, _, _⟩) (v := ?_) rfl (by kernel_rfl) (by kernel_rfl) (by kernel_rfl) (fun _ _ _ h => h) (Or.inl ⟨by rfl, ?_⟩) (by assumption) ?_
  rotate_left
  · (intro w hSw; (try dsimp only at hSw); go_simp; first | done | with_reducible rfl)
  try simp only [Act.put, List.setIfInBounds_toArray, List.set_cons_zero, List.set_cons_succ]
  refine wpAnyH_take (i := 8) (oi := ⟨some 55, _, _, _, _, _⟩) (v := ?_) rfl (by kernel_rfl) (by kernel_rfl) (by kernel_rfl) (fun _ _ _ h => h) (Or.inl ⟨by rfl, ?_⟩) (by assumption) ?_
  rotate_left
  · (intro w hSw; (try dsimp only at hSw); go_simp; first | done | with_reducible rfl)
  try simp only [Act.put, List.setIfInBounds_toArray, List.set_cons_zero, List.set_cons_succ]
  refine wpAnyH_take (i := 9) (oi := ⟨some 56, _, _, _, _, _⟩) (v := ?_) rfl (by kernel_rfl) (by kernel_rfl) (by kernel_rfl) (fun _ _ _ h => h) (Or.inl ⟨by rfl, ?_⟩) (by assumption) ?_
  rotate_left
  · (intro w hSw; (try dsimp only at hSw); go_simp; first | done | with_reducible rfl)
  try simp only [Act.put, List.setIfInBounds_toArray, List.set_cons_zero, List.set_cons_succ]
  refine wpAnyH_take (i := 10) (oi := ⟨some 57, _, _, _, _, _⟩) (v := ?_) rfl (by kernel_rfl) (by kernel_rfl) (by kernel_rfl) (fun _ _ _ h => h) (Or.inl ⟨by rfl, ?_⟩) (by assumption) ?_
  rotate_left
  · (intro w hSw; (try dsimp only at hSw); go_simp; first | done | with_reducible rfl)
  try simp only [Act.put, List.setIfInBounds_toArray, List.set_cons_zero, List.set_cons_succ]
  refine wpAnyH_take (i := 11) (oi := ⟨some 58, _, _, _, _, _⟩) (v := ?_) rfl (by kernel_rfl) (by kernel_rfl) (by kernel_rfl) (fun _ _ _ h => h) (Or.inl ⟨by rfl, ?_⟩) (by assumption) ?_
  rotate_left
  · (intro w hSw; (try dsimp only at hSw); go_simp; first | done | with_reducible rfl)
  try simp only [Act.put, List.setIfInBounds_toArray, List.set_cons_zero, List.set_cons_succ]
  refine wpAnyH_take (i := 12) (oi := ⟨some 59, _, _, _, _, _⟩) (v := ?_) rfl (by kernel_rfl) (by kernel_rfl) (by kernel_rfl) (fun _ _ _ h => h) (Or.inl ⟨by rfl, ?_⟩) (by assumption) ?_
  rotate_left
  · (intro w hSw; (try dsimp only at hSw); go_simp; first | done | with_reducible rfl)
  try simp only [Act.put, List.setIfInBounds_toArray, List.set_cons_zero, List.set_cons_succ]
  refine wpAnyH_take (i := 13) (oi := ⟨some 60, _, _, _, _, _⟩) (v := ?_) rfl (by kernel_rfl) (by kernel_rfl) (by kernel_rfl) (fun _ _ _ h => h) (Or.inl ⟨by rfl, ?_⟩) (by assumption) ?_
  rotate_left
  · (intro w hSw; (try dsimp only at hSw); go_simp; first | done | with_reducible rfl)
  try simp only [Act.put, List.setIfInBounds_toArray, List.set_cons_zero, List.set_cons_succ]
  refine wpAnyH_take (i := 14) (oi := ⟨some 61, _, _, _, _, _⟩) (v := ?_) rfl (by kernel_rfl) (by kernel_rfl) (by kernel_rfl) (fun _ _ _ h => h) (Or.inl ⟨by rfl, ?_⟩) (by assumption) ?_
  rotate_left
  · (intro w hSw; (try dsimp only at hSw); go_simp; first | done | with_reducible rfl)
  try simp only [Act.put, List.setIfInBounds_toArray, List.set_cons_zero, List.set_cons_succ]
  refine wpAnyH_take (i := 15) (oi := ⟨some 62, _, _, _, _, _⟩) (v := ?_) rfl (by kernel_rfl) (by kernel_rfl) (by kernel_rfl) (fun _ _ _ h => h) (Or.inl ⟨by rfl, ?_⟩) (by assumption) ?_
  rotate_left
  · (intro w hSw; (try dsimp only at hSw); go_simp; first | done | with_reducible rfl)
  try simp only [Act.put, List.setIfInBounds_toArray, List.set_cons_zero, List.set_cons_succ]
  refine wpAnyH_take (i := 16) (oi := ⟨some 63, _, _, _, _, _⟩) (v := ?_) rfl (by kernel_rfl) (by kernel_rfl) (by kernel_rfl) (fun _ _ _ h => h) (Or.inl ⟨by rfl, ?_⟩) (by assumption) ?_
  rotate_left
  · (intro w hSw; (try dsimp only at hSw); go_simp; first | done | with_reducible rfl)
  try simp only [Act.put, List.setIfInBounds_toArray, List.set_cons_zero, List.set_cons_succ]
  refine wpAnyH_take (i := 17) (oi := ⟨some 64, _, _, _, _, _⟩) (v := ?_) rfl (by kernel_rfl) (by kernel_rfl) (by kernel_rfl) (fun _ _ _ h => h) (Or.inl ⟨by rfl, ?_⟩) (by assumption) ?_
  rotate_left
  · (intro w hSw; (try dsimp only at hSw); go_simp; first | done | with_reducible rfl)
  try simp only [Act.put, List.setIfInBounds_toArray, List.set_cons_zero, List.set_cons_succ]
  refine wpAnyH_ready (rs := [18]) (by kernel_rfl) (by simp) ?_
  refine AllReadyH.cons (o := ⟨some 65, _, _, _, _, _⟩) rfl (fun K hK => ?_) AllReadyH.nil
  go_simp
  refine (Sh.sector_any _ 8 (by decide)).mono ?_
  rintro e w10 ⟨rfl, ho10, hb10⟩
  refine hK.out _ _ (hHeld.trans (hb10.mono hHeld.size)) (fun hHeld => ?_)
  clear hK K
  try simp only [Act.put, List.setIfInBounds_toArray, List.set_cons_zero, List.set_cons_succ]
  rw [HXE.out] at ho10
  have hb810 : Below w8.heap.size w8 w10 := hHeld
  clear hHeld t1
  refine Sh.wpAnyH_mono (S' := fun W' => Below w10.heap.size w10 W') (fun W' h => hb810.trans (h.mono hb810.size)) _ _ _ _ ?_
  have hHeld : Below w10.heap.size w10 w10 := Below.refl _ _
  have t2 := fun W hb => Sh.conv_own ho10 HS8.out W hb
  refine wpAnyH_take (i := 19) (oi := ⟨some 66, _, _, _, _, _⟩) (v := ?_) rfl (by kernel_rfl) (by kernel_rfl) (by kernel_rfl) (fun _ _ _ h => h) (Or.inl ⟨by rfl, ?_⟩) (by assumption) ?_
  rotate_left
  · (intro w hSw; (try dsimp only at hSw); go_simp; first | done | with_reducible rfl)
  try simp only [Act.put, List.setIfInBounds_toArray, List.set_cons_zero, List.set_cons_succ]
  refine wpAnyH_take (i := 20) (oi := ⟨some 67, _, _, _, _, _⟩) (v := ?_) rfl (by kernel_rfl) (by kernel_rfl) (by kernel_rfl) (fun _ _ _ h => h) (Or.inl ⟨by rfl, ?_⟩) (by assumption) ?_
  rotate_left
  · (intro w hSw; (try dsimp only at hSw); go_simp; first | done | with_reducible rfl)
  try simp only [Act.put, List.setIfInBounds_toArray, List.set_cons_zero, List.set_cons_succ]
  refine wpAnyH_take (i := 21) (oi := ⟨some 68, _, _, _, _, _⟩) (v := ?_) rfl (by kernel_rfl) (by kernel_rfl) (by kernel_rfl) (fun _ _ _ h => h) (Or.inl ⟨by rfl, ?_⟩) (by assumption) ?_
  rotate_left
  · (intro w hSw; (try dsimp only at hSw); go_simp; first | done | with_reducible rfl)
  try simp only [Act.put, List.setIfInBounds_toArray, List.set_cons_zero, List.set_cons_succ]
  refine wpAnyH_take (i := 22) (oi := ⟨some 69, _, _, _, _, _⟩) (v := ?_) rfl (by kernel_rfl) (by kernel_rfl) (by kernel_rfl) (fun _ _ _ h => h) (Or.inl ⟨by rfl, ?_⟩) (by assumption) ?_
  rotate_left
  · (intro w hSw; (try dsimp only at hSw); go_simp; first | done | with_reducible rfl)
  try simp only [Act.put, List.setIfInBounds_toArray, List.set_cons_zero, List.set_cons_succ]
  refine wpAnyH_take (i := 23) (oi := ⟨some 70, _, _, _, _, _⟩) (v := ?_) rfl (by kernel_rfl) (by kernel_rfl) (by kernel_rfl) (fun _ _ _ h => h) (Or.inl ⟨by rfl, ?_⟩) (by assumption) ?_
  rotate_left
  · (intro w hSw; (try dsimp only at hSw); go_simp; first | done | with_reducible rfl)
  try simp only [Act.put, List.setIfInBounds_toArray, List.set_cons_zero, List.set_cons_succ]
  refine wpAnyH_take (i := 24) (oi := ⟨some 71, _, _, _, _, _⟩) (v := ?_) rfl (by kernel_rfl) (by kernel_rfl) (by kernel_rfl) (fun _ _ _ h => h) (Or.inl ⟨by rfl, ?_⟩) (by assumption) ?_
  rotate_left
  · (intro w hSw; (try dsimp only at hSw); go_simp; first | done | with_reducible rfl)
  try simp only [Act.put, List.setIfInBounds_toArray, List.set_cons_zero, List.set_cons_succ]
  refine wpAnyH_take (i := 25) (oi := ⟨some 72, _, _, _, _, _⟩) (v := ?_) rfl (by kernel_rfl) (by kernel_rfl) (by kernel_rfl) (fun _ _ _ h => h) (Or.inl ⟨by rfl, ?_⟩) (by assumption) ?_
  rotate_left
  · (intro w hSw; (try dsimp only at hSw); go_simp; first | done | with_reducible rfl)
  try simp only [Act.put, List.setIfInBounds_toArray, List.set_cons_zero, List.set_cons_succ]
  refine wpAnyH_take (i := 26) (oi := ⟨some 73, _, _, _, _, _⟩) (v := ?_) rfl (by kernel_rfl) (by kernel_rfl) (by kernel_rfl) (fun _ _ _ h => h) (Or.inl ⟨by rfl, ?_⟩) (by assumption) ?_
  rotate_left
  · (intro w hSw; (try dsimp only at hSw); go_simp; first | done | with_reducible rfl)
  try simp only [Act.put, List.setIfInBounds_toArray, List.set_cons_zero, List.set_cons_succ]
  refine wpAnyH_take (i := 27) (oi := ⟨some 74, _, _, _, _, _⟩) (v := ?_) rfl (by kernel_rfl) (by kernel_rfl) (by kernel_rfl) (fun _ _ _ h => h) (Or.inl ⟨by rfl, ?_⟩) (by assumption) ?_
  rotate_left
  · (intro w hSw; (try dsimp only at hSw); go_simp; first | done | with_reducible rfl)
  try simp only [Act.put, List.setIfInBounds_toArray, List.set_cons_zero, List.set_cons_succ]
  refine wpAnyH_take (i := 28) (oi := ⟨some 75, _, _, _, _, _⟩) (v := ?_) rfl (by kernel_rfl) (by kernel_rfl) (by kernel_rfl) (fun _ _ _ h => h) (Or.inl ⟨by rfl, ?_⟩) (by assumption) ?_
  rotate_left
  · (intro w hSw; (try dsimp only at hSw); go_simp; first | done | with_reducible rfl)
  try simp only [Act.put, List.setIfInBounds_toArray, List.set_cons_zero, List.set_cons_succ]
  refine wpAnyH_take (i := 29) (oi := ⟨some 76, _, _, _, _, _⟩) (v := ?_) rfl (by kernel_rfl) (by kernel_rfl) (by kernel_rfl) (fun _ _ _ h => h) (Or.inl ⟨by rfl, ?_⟩) (by assumption) ?_
  rotate_left
  · (intro w hSw; (try dsimp only at hSw); go_simp; first | done | with_reducible rfl)
  try simp only [Act.put, List.setIfInBounds_toArray, List.set_cons_zero, List.set_cons_succ]
  refine wpAnyH_take (i := 30) (oi := ⟨some 77, _, _, _, _, _⟩) (v := ?_) rfl (by kernel_rfl) (by kernel_rfl) (by kernel_rfl) (fun _ _ _ h => h) (Or.inl ⟨by rfl, ?_⟩) (by assumption) ?_
  rotate_left
  · (intro w hSw; (try dsimp only at hSw); go_simp; first | done | with_reducible rfl)
  try simp only [Act.put, List.setIfInBounds_toArray, List.set_cons_zero, List.set_cons_succ]
  refine wpAnyH_take (i := 31) (oi := ⟨some 78, _, _, _, _, _⟩) (v := ?_) rfl (by kernel_rfl) (by kernel_rfl) (by kernel_rfl) (fun _ _ _ h => h) (Or.inl ⟨by rfl, ?_⟩) (by assumption) ?_
  rotate_left
  · (intro w hSw; (try dsimp only at hSw); go_simp; first | done | with_reducible rfl)
  try simp only [Act.put, List.setIfInBounds_toArray, List.set_cons_zero, List.set_cons_succ]
  refine wpAnyH_ready (rs := [32]) (by kernel_rfl) (by simp) ?_
  refine AllReadyH.cons (o := ⟨some 79, _, _, _, _, _⟩) rfl (fun K hK => ?_) AllReadyH.nil
  go_simp
  refine (HST.out _ (hb810.trans (hHeld.mono hb810.size))).mono ?_
  rintro e w11 ⟨A11, c11, rfl, hb11⟩
  refine hK.out _ _ (hHeld.trans (hb11.mono hHeld.size)) (fun hHeld => ?_)
  clear hK K
  try simp only [Act.put, List.setIfInBounds_toArray, List.set_cons_zero, List.set_cons_succ]
  refine wpAnyH_take (i := 33) (oi := ⟨some 80, _, _, _, _, _⟩) (v := ?_) rfl (by kernel_rfl) (by kernel_rfl) (by kernel_rfl) (fun _ _ _ h => h) (Or.inl ⟨by rfl, ?_⟩) (by assumption) ?_
  rotate_left
  · (intro w hSw; (try dsimp only at hSw); go_simp; first | done | with_reducible rfl)
  try simp only [Act.put, List.setIfInBounds_toArray, List.set_cons_zero, List.set_cons_succ]
  refine wpAnyH_take (i := 34) (oi := ⟨some 81, _, _, _, _, _⟩) (v := ?_) rfl (by kernel_rfl) (by kernel_rfl) (by kernel_rfl) (fun _ _ _ h => h) (Or.inl ⟨by rfl, ?_⟩) (by assumption) ?_
  rotate_left
  · (intro w hSw; (try dsimp only at hSw); go_simp; first | done | with_reducible rfl)
  try simp only [Act.put, List.setIfInBounds_toArray, List.set_cons_zero, List.set_cons_succ]
  refine wpAnyH_take (i := 35) (oi := ⟨some 82, _, _, _, _, _⟩) (v := ?_) rfl (by kernel_rfl) (by kernel_rfl) (by kernel_rfl) (fun _ _ _ h => h) (Or.inl ⟨by rfl, ?_⟩) (by assumption) ?_
  rotate_left
  · (intro w hSw; (try dsimp only at hSw); go_simp; first | done | with_reducible rfl)
  try simp only [Act.put, List.setIfInBounds_toArray, List.set_cons_zero, List.set_cons_succ]
  refine wpAnyH_take (i := 36) (oi := ⟨some 83, _, _, _, _, _⟩) (v := ?_) rfl (by kernel_rfl) (by kernel_rfl) (by kernel_rfl) (fun _ _ _ h => h) (Or.inl ⟨by rfl, ?_⟩) (by assumption) ?_
  rotate_left
  · (intro w hSw; (try dsimp only at hSw); go_simp; first | done | with_reducible rfl)
  try simp only [Act.put, List.setIfInBounds_toArray, List.set_cons_zero, List.set_cons_succ]
  refine wpAnyH_take (i := 37) (oi := ⟨some 0, _, _, _, _, _⟩) (v := ?_) rfl (by kernel_rfl) (by kernel_rfl) (by kernel_rfl) (fun _ _ _ h => h) (Or.inl ⟨by rfl, ?_⟩) (by assumption) ?_
  rotate_left
  · (intro w hSw; (try dsimp only at hSw); go_simp; first | done | with_reducible rfl)
  try simp only [Act.put, List.setIfInBounds_toArray, List.set_cons_zero]
  refine wpAnyH_done (by kernel_rfl) ?_ _
  have HE := Lib.hid hHeld
  clear hHeld
  go_wp2
  go_ret
  exact ⟨rfl, HB8.out.trans ((hb810.trans (HE.out.mono hb810.size)).mono HB8.out.size)⟩

end Go.Proofs.YtplbgjjacomceaaGreatDoor.U
namespace Go.Proofs.YtplbgjjacomceaaGreatDoor.U
open Go.ChangeShapes Go.WideShapes Go.ChangeAt Go.RowKit

theorem own : ownKnob Tryz.prog.godebug = none := by kernel_rfl
theorem laidOut : laidOutB Tryz.prog = true := by kernel_rfl
theorem gLow : Tryz.prog.globalNamed "ashlar/octets.lowRests" = some 1 := by kernel_rfl
theorem gHigh : Tryz.prog.globalNamed "ashlar/octets.highRests" = some 2 := by kernel_rfl
theorem gFld : Tryz.prog.globalNamed "ashlar/ppl.fields" = some 4 := by kernel_rfl
theorem gWid : Tryz.prog.globalNamed "ashlar/super.widths" = some 0 := by kernel_rfl
theorem gPla : Tryz.prog.globalNamed "ashlar/lay.places" = some 3 := by kernel_rfl
theorem gWidType : (Tryz.prog.globals[0]?).map (·.type) = some 169 := by kernel_rfl
theorem gLowType : (Tryz.prog.globals[1]?).map (·.type) = some 195 := by kernel_rfl
theorem gHighType : (Tryz.prog.globals[2]?).map (·.type) = some 195 := by kernel_rfl
theorem gFldType : (Tryz.prog.globals[4]?).map (·.type) = some 223 := by kernel_rfl
theorem cells16 : Tryz.prog.cellsOf 195 = 16 := by kernel_rfl
theorem cellsU32 : Tryz.prog.cellsOf 128 = 1 := by kernel_rfl
theorem cellsInt : Tryz.prog.cellsOf 3 = 1 := by kernel_rfl
theorem cellsU8 : Tryz.prog.cellsOf 5 = 1 := by kernel_rfl
theorem cellsB : Tryz.prog.cellsOf 45 = 1 := by kernel_rfl
theorem cells8 : Tryz.prog.cellsOf 169 = 8 := by kernel_rfl
theorem cellsFld : Tryz.prog.cellsOf 222 = 2 := by kernel_rfl
theorem cellsFlds : Tryz.prog.cellsOf 223 = 6 := by kernel_rfl
theorem bytesU8 : Tryz.prog.bytesOf 5 = 1 := by kernel_rfl

def widZ : List Int := [8, 1, 1, 1, 1, 4, 4, 4]
def plaZ : List Int := [-1, 0, 1, 2, 3, 4, 5, 6, 7, 8, 9, 10, 11, 12, 13, 14]
abbrev laidBoth : List (String × DataW Unit) := [("ashlar/lay.places", Rows.laid_ashlar_lay_places), ("ashlar/octets.lowRests", Rows.laid_ashlar_octets_lowRests), ("ashlar/octets.highRests", Rows.laid_ashlar_octets_highRests), ("ashlar/ppl.fields", Rows.laid_ashlar_ppl_fields), ("ashlar/super.widths", Rows.laid_ashlar_super_widths)]
/-- All tables. -/
structure All (w : World) : Prop where
  tabs : Tabs w
  fld : Flds w
  wid : Go.Proofs.YtplbgjjacomceaaGreatDoor.S.Wid w
theorem All.over {w w' : World} (h : All w) (hb : Below w.heap.size w w') : All w' := ⟨h.tabs.below h.tabs.size hb, h.fld.below h.fld.size hb, h.wid.below h.wid.size hb⟩
section
variable {H : Type} {enc : TypeId × Value → H} {w : World} {base : Nat} {sp : Nat → Bool} {held : Bool}
theorem lit_of {fuel : Nat} {t : TypeId} {k : IntKind} {v : Value} {z : Int} {y : DataW H × List MemPlace} (ht : Tryz.prog.underlying t = some (.int k)) (h : DataW.trod enc Tryz.prog w base sp held fuel t [v] = some y) (hy : y.1 = .lit (.int k z)) : v = .int k z := by
  obtain ⟨z', hc, hd, _⟩ := DataW.trod_int ht h
  simp only [List.cons.injEq, and_true] at hc
  subst hc
  rw [hd] at hy
  simp only [DataW.lit.injEq, Lit.int.injEq, true_and] at hy
  rw [hy]
set_option maxRecDepth 20000 in
theorem fld_val {fuel : Nat} {cs : List Value} {y : DataW H × List MemPlace} {x z : Int} (hl : cs.length = 2) (h : DataW.trod enc Tryz.prog w base sp held fuel 222 cs = some y) (hy : y.1 = .agg [.lit (.int .i64 x), .lit (.int .u64 z)]) : cs = [.int .i64 x, .int .u64 z] := by
  obtain ⟨xs, k, rfl, rfl, _, hxs, hf⟩ := DataW.trod_struct Tryz.underlying222 h
  match cs, hl with
  | [v0, v1], _ =>
    have hs : xs.length = 2 := hxs
    have f0 := hf 0 _ rfl
    have f1 := hf 1 _ rfl
    match xs, hs with
    | [z0, z1], _ =>
      simp only [List.map_cons, List.map_nil, DataW.agg.injEq, List.cons.injEq, and_true] at hy
      have e0 := lit_of (v := v0) Tryz.underlying3 (show DataW.trod enc Tryz.prog w base sp held k 3 [v0] = some z0 from f0) hy.1
      have e1 := lit_of (v := v1) Tryz.underlying171 (show DataW.trod enc Tryz.prog w base sp held k 171 [v1] = some z1 from f1) hy.2
      rw [e0, e1]
set_option maxRecDepth 20000 in
theorem flds_val {fuel : Nat} {cs : List Value} {p : List MemPlace} (h : DataW.trod enc Tryz.prog w base sp held fuel 223 cs = some (Rows.laid_ashlar_ppl_fields, p)) :
    cs = [.int .i64 4, .int .u64 1024, .int .i64 8, .int .u64 15, .int .i64 12, .int .u64 4294967296] := by
  cases fuel with
  | zero => simp [DataW.trod] at h
  | succ fuel =>
    simp only [DataW.trod, Tryz.underlying223, cellsFld, cellsFlds] at h
    split at h
    · rename_i hl
      obtain ⟨xs, hm, hx⟩ := Option.map_eq_some_iff.1 h
      have hxs : xs.map (·.1) = [.agg [.lit (.int .i64 4), .lit (.int .u64 1024)], .agg [.lit (.int .i64 8), .lit (.int .u64 15)], .agg [.lit (.int .i64 12), .lit (.int .u64 4294967296)]] := by
        have := congrArg Prod.fst hx
        simpa [Rows.laid_ashlar_ppl_fields] using this
      have hl6 : cs.length = 6 := by simpa using hl
      have hxl : xs.length = 3 := by simpa using Lib.mapM_length hm
      have key : ∀ i x z, i < 3 → (xs.map (·.1))[i]? = some (.agg [.lit (.int .i64 x), .lit (.int .u64 z)]) → (cs.drop (i * 2)).take 2 = [.int .i64 x, .int .u64 z] := by
        intro i x z hi he
        obtain ⟨y, hy, hf⟩ := Lib.mapM_at hm i i (by simp [hi])
        refine fld_val (by simp; omega) hf ?_
        rw [List.getElem?_map, hy] at he
        simpa using he
      have k0 := key 0 4 1024 (by decide) (by rw [hxs]; rfl)
      have k1 := key 1 8 15 (by decide) (by rw [hxs]; rfl)
      have k2 := key 2 12 4294967296 (by decide) (by rw [hxs]; rfl)
      match cs, hl6, k0, k1, k2 with
      | [v0, v1, v2, v3, v4, v5], _, k0, k1, k2 =>
        have k0 : [v0, v1] = _ := k0
        have k1 : [v2, v3] = _ := k1
        have k2 : [v4, v5] = _ := k2
        simp only [List.cons.injEq, and_true] at k0 k1 k2
        rw [k0.1, k0.2, k1.1, k1.2, k2.1, k2.2]
    · cases h
end
/-- WHAT THE ROW's LIST GIVES: the tables' cells. -/
theorem tabs_of_laid {W : World} (h : laidMetH Tryz.prog laidBoth W) : All W := by
  rw [MakeChecks.laidMetH_plain _ _ _ (by kernel_rfl)] at h
  obtain ⟨ps, ⟨g9, t9, cs9, f9, p9, q9, hg9, ht9, hv9, hd9, ⟨g0, t0, cs0, f0, p0, q0, hg0, ht0, hv0, hd0, ⟨g1, t1, cs1, f1, p1, q1, hg1, ht1, hv1, hd1, ⟨g2, t2, cs2, f2, p2, q2, hg2, ht2, hv2, hd2, ⟨g3, t3, cs3, f3, p3, q3, hg3, ht3, hv3, hd3, _, _⟩, _⟩, _⟩, _⟩, _⟩, _, _⟩ := h
  obtain rfl := Option.some.inj (gLow.symm.trans hg0)
  obtain rfl := Option.some.inj (gHigh.symm.trans hg1)
  obtain rfl := Option.some.inj (gFld.symm.trans hg2)
  obtain rfl := Option.some.inj (gWid.symm.trans hg3)
  obtain rfl := Option.some.inj (gWidType.symm.trans ht3)
  obtain rfl := Option.some.inj (gLowType.symm.trans ht0)
  obtain rfl := Option.some.inj (gHighType.symm.trans ht1)
  obtain rfl := Option.some.inj (gFldType.symm.trans ht2)
  have e0 : cs0.toList = (Nums.lowT.map fun (x : Nat) => (x : Int)).map fun z => Value.int .u32 z := Lib.cells_of_tab Tryz.underlying195 Tryz.underlying128 cellsU32 cells16 hd0
  have e1 : cs1.toList = (Nums.highT.map fun (x : Nat) => (x : Int)).map fun z => Value.int .u32 z := Lib.cells_of_tab Tryz.underlying195 Tryz.underlying128 cellsU32 cells16 hd1
  have e2 := flds_val hd2
  have e3 : cs3.toList = widZ.map fun z => Value.int .i64 z := Lib.cells_of_tab Tryz.underlying169 Tryz.underlying3 cellsInt cells8 hd3
  have wid0 : ∀ i : Fin 8, widZ[i.val]? = some (((Go.Proofs.YtplbgjjacomceaaGreatDoor.S.widL.getD i.val 0 : Nat) : Int)) := by decide
  have low : ∀ i : Fin 16, ((Nums.lowT.map fun (x : Nat) => (x : Int)).map fun z => Value.int .u32 z)[i.val]? = some (.int .u32 ((Nums.low i.val : Nat) : Int)) := by
    intro i
    have : i.val < Nums.lowT.length := i.isLt
    simp [Nums.low, List.getD, List.getElem?_eq_getElem this]
  have high : ∀ i : Fin 16, ((Nums.highT.map fun (x : Nat) => (x : Int)).map fun z => Value.int .u32 z)[i.val]? = some (.int .u32 ((Nums.high i.val : Nat) : Int)) := by
    intro i
    have : i.val < Nums.highT.length := i.isLt
    simp [Nums.high, List.getD, List.getElem?_eq_getElem this]
  refine ⟨⟨fun i hi => ?_, fun i hi => ?_⟩, ⟨fun i hi => ?_, fun i hi => ?_⟩, fun i hi => ?_⟩
  · have h1 := World.var?_cell hg0 hv0 i
    have h2 := low ⟨i, hi⟩
    rw [← e0] at h2
    rw [h1]
    simpa using h2
  · have h1 := World.var?_cell hg1 hv1 i
    have h2 := high ⟨i, hi⟩
    rw [← e1] at h2
    rw [h1]
    simpa using h2
  · rw [World.var?_cell hg2 hv2 (i * 2)]
    have h2 : cs2.toList[i * 2]? = some (.int .i64 ((4 + i * 4 : Nat) : Int)) := by
      rw [e2]
      obtain rfl | rfl | rfl : i = 0 ∨ i = 1 ∨ i = 2 := by omega
      all_goals rfl
    simpa using h2
  · rw [World.var?_cell hg2 hv2 (i * 2 + 1)]
    have h2 : cs2.toList[i * 2 + 1]? = some (.int .u64 ((cntL.getD i 0 : Nat) : Int)) := by
      rw [e2]
      obtain rfl | rfl | rfl : i = 0 ∨ i = 1 ∨ i = 2 := by omega
      all_goals rfl
    simpa using h2
  · have h1 := World.var?_cell hg3 hv3 i
    have h2 : (widZ.map fun z => Value.int .i64 z)[i]? = some (.int .i64 ((Go.Proofs.YtplbgjjacomceaaGreatDoor.S.widL.getD i 0 : Nat) : Int)) := by rw [List.getElem?_map, wid0 ⟨i, hi⟩]; rfl
    rw [← e3] at h2
    rw [h1]
    simpa using h2
/-- A SLICE OF BYTES THAT CAME IN. -/
theorem bytes_in {H : Type} {enc : TypeId × Value → H} {W : World} {fuel n c : Nat} {A : Option Addr} {x : DataW H × List MemPlace} (h : DataW.trod enc Tryz.prog W 0 (fun _ => true) true fuel 45 [.slice A n c] = some x) :
    ∃ l, Small l ∧ Reads W W.heap.size A n (bts l) ∧ n ≤ c ∧ c ≤ maxLen ∧ ((x.1 = .nil ∧ c = 0) ∨ ∃ es sp, x.1 = .slice es sp ∧ es.length + sp.length = c) := by
  rcases open_ints Tryz.underlying45 Tryz.underlying5 cellsU8 h with ⟨hcs, rfl⟩ | ⟨a, len, cap, zs, hcs, _, hl, hm, hz, rfl, hcell, hwz⟩
  · simp only [List.cons.injEq, Value.slice.injEq, and_true] at hcs
    obtain ⟨rfl, rfl, rfl⟩ := hcs
    exact ⟨[], fun _ hx => by simp at hx, Reads.none_, Nat.le_refl _, by unfold maxLen; omega, .inl ⟨rfl, rfl⟩⟩
  · simp only [List.cons.injEq, Value.slice.injEq, and_true] at hcs
    obtain ⟨rfl, rfl, rfl⟩ := hcs
    simp only [if_true] at hz
    have hb : ∀ z ∈ zs, 0 ≤ z ∧ z < 256 := fun z hzm => by
      have := hwz z hzm
      simp [Lit.wf, IntKind.min, IntKind.max, IntKind.bits, IntKind.signed] at this
      omega
    have hlen : ((zs.take n).map Int.toNat).length = n := by simp; omega
    refine ⟨(zs.take n).map Int.toNat, ?_, ⟨by rw [bts_length, hlen], fun hn => ⟨a, rfl, ?_, ?_⟩⟩, hl, hm, .inr ⟨_, _, rfl, by simp [lits]; omega⟩⟩
    · intro y hy
      simp only [List.mem_map] at hy
      obtain ⟨z, hzm, rfl⟩ := hy
      have := hb z (List.mem_of_mem_take hzm)
      omega
    · have := World.block_lt_of_cell? W _ (hcell 0 (by omega))
      rwa [block_of_add] at this
    · intro j u hu
      have hj : j < n := by
        rcases Nat.lt_or_ge j n with h | h
        · exact h
        · rw [List.getElem?_eq_none (by rw [bts_length, hlen]; exact h)] at hu; cases hu
      have hjz : j < zs.length := by omega
      have h1 := hcell j hjz
      rw [h1]
      rw [bts_get _ _ (by rw [hlen]; exact hj)] at hu
      rw [← hu]
      have h2 := hb zs[j] (List.getElem_mem hjz)
      simp [List.getD, List.getElem?_eq_getElem hjz, hj]
      omega


/-- A WORLD FOR THE WITNESS: the settled one, the tables holding what their initialisers lay. -/
def withCells (l : List Nat) : Obj → Obj
  | .cells _ t frozen => .cells (l.map fun (x : Nat) => Value.int .u32 (x : Int)).toArray t frozen
  | o => o
def withFlds : Obj → Obj
  | .cells _ t frozen => .cells #[.int .i64 4, .int .u64 1024, .int .i64 8, .int .u64 15, .int .i64 12, .int .u64 4294967296] t frozen
  | o => o
def withI (l : List Int) : Obj → Obj
  | .cells _ t frozen => .cells (l.map fun (x : Int) => Value.int .i64 x).toArray t frozen
  | o => o
noncomputable def laidWorld (os : Os) : World :=
  { World.holding Tryz.prog os ⟨#[], #[], []⟩ with heap := (((((World.holding Tryz.prog os ⟨#[], #[], []⟩).heap.modify 1 (withCells Nums.lowT)).modify 2 (withCells Nums.highT)).modify 4 withFlds).modify 0 (withI widZ)).modify 3 (withI plaZ) }
end Go.Proofs.YtplbgjjacomceaaGreatDoor.U
