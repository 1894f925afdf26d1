/-
  The definition's Crash.
  Conditions: the definition's shelf lies in memory, the lists of numbers beside it.
-/
import Derived.Test.YtbkcdomapdflaaaKi
namespace Go.Proofs.Ytbkcdomapdflaaa.Sh
open Go.RowKit Go.Maps

def Sf.on (S : Sf) : Sf := { S with off := false, left := 0 }
theorem on_crash (S : Sf) (ks : List (List Int)) : S.on.crashTo ks S.disks.length = S.crash ks := rfl
/-- So many disks have been looked after. -/
structure Fell (w wr : World) (q : Nat) (F : Nat → Prop) (S : Sf) (st : Bool) (l : Int) : Prop where
  is_ : ∃ F1 D gs Ls, RefIs wr q S F1 D gs Ls st l ∧ Moves F w F1 wr
theorem in_take (l : List Int) (m : Nat) (c : Int) (h : m < l.length) : decide (c ∈ l.take (m + 1)) = (decide (c ∈ l.take m) || decide (l.getD m 0 = c)) := by
  rw [take_snoc_int l m h]
  generalize l.getD m 0 = x
  generalize l.take m = t
  by_cases h1 : c ∈ t
  · simp [h1]
  · by_cases h2 : x = c
    · subst h2; simp
    · have h3 : ¬ c = x := fun e => h2 e.symm
      simp [h1, h2, h3]
theorem laid_moves {w w1 w2 : World} {q D : Nat} {S : Sf} {F F1 : Nat → Prop} {gs : Nat → Gr} {Ls : Nat → List (Nat × Bs)} {st : Bool} {l : Int} {F' : Nat → Prop} (h : Moves F w F1 w1) (h1 : RefIs w2 q S F' D gs Ls st l) (hF : ∀ b, F' b → F1 b ∨ w1.heap.size ≤ b) (hO : Only F1 w1 w2) : Fell w w2 q F S st l :=
  ⟨_, _, _, _, h1, h.trans ⟨hO, hF⟩⟩
set_option maxRecDepth 20000 in
set_option maxHeartbeats 3200000 in
theorem rcrash_any {w : World} {q D : Nat} {S : Sf} {F : Nat → Prop} {gs : Nat → Gr} {Ls : Nat → List (Nat × Bs)} {st : Bool} {l : Int} (h : RefIs w q S F D gs Ls st l) (G : Nat → Prop) (A : Option Addr) (n c : Nat) (ks : List (List Int)) (hk : KeepIs w G A n ks) (hG : ∀ b, G b → b < w.heap.size ∧ ¬ F b) (hn : n ≤ 9223372036854775807)
    (hL : ∀ k ∈ S.disks, k.waits.length < 4398046511104) :
    Calls Try.prog 37 #[.pointer (some ⟨q, 0, none⟩), .slice A n c] w fun e w' => e = .returned (.tuple #[]) ∧ RLeft F w q (S.crash ks) w' := by
  have c3 := h.c3
  have f3 := h.free 3
  have hm := h.most
  have hroot1 := cells_set (i := 3) (.bool false) h.root
  have hO1 : Only F w (w.setCell ⟨q, 3, none⟩ (.bool false)) := Only.setCell (p := ⟨q, 3, none⟩) (Only.refl _ w) (.inl h.inF.1) _
  have hp : Pow { S with count := S.count, off := false, left := 0 } false l := ⟨rfl, (fun e => by cases e), (fun e => by cases e), Nat.zero_le _, h.pow.b0, h.pow.b1⟩
  have hR1 := h.rooted (w' := w.setCell ⟨q, 3, none⟩ (.bool false)) false 0 S.count false l hp (by rw [hroot1]; rfl) (fun b _ hb2 => heap_set_other _ _ _ hb2) hO1.size
  have hfell : Fell w (w.setCell ⟨q, 3, none⟩ (.bool false)) q F (S.on.crashTo ks 0) false l := ⟨F, D, gs, Ls, by rw [crashTo_zero]; exact hR1, hO1, fun b hb => .inl hb⟩
  have HST := Lib.hid hfell
  have HL := Lib.hid hL
  have HG := Lib.hid hG
  have HK := Lib.hid hk
  clear hroot1 hO1 hp hR1 hfell h hL hG hk
  go_enter Try.func37, Try.ntmps37
  go_wp2
  generalize hkk : S.disks.length = k at *
  have HKK := Lib.hid hkk
  clear hkk c3 f3
  go_loopw [4] (fun i wr => ∃ j : Nat, j ≤ k ∧ i = .int .i64 j ∧ Hid (Fell w wr q F (S.on.crashTo ks j) false l)) (fun i _ => k - (intOf i).toNat)
  case atStart => exact ⟨0, Nat.zero_le _, rfl, HST⟩
  case round =>
    clear HST
    obtain ⟨j, hj, rfl, hrel⟩ := hrel
    obtain ⟨F1, D1, gs1, Ls1, h1, hmv⟩ := hrel.out
    have hlen : (S.on.crashTo ks j).disks.length = k := by rw [crashTo_length]; exact HKK.out
    have c0 := h1.c0
    rw [hlen] at c0
    by_cases hlt : j < k
    · have hjl : j < (S.on.crashTo ks j).disks.length := by rw [hlen]; exact hlt
      have hdk : (S.on.crashTo ks j).disks.getD j default = S.disks.getD j default := crashTo_at S.on ks (by rw [show S.on.disks.length = k from HKK.out]; exact hlt)
      have k2 := h1.dc hjl (c := 2) (by decide)
      simp only [diskR] at k2
      have hwl : (S.disks.getD j default).waits.length < 4398046511104 := HL.out _ (getD_mem (by rw [HKK.out]; exact hlt))
      obtain ⟨A1, nW, ca, hva, hnW⟩ : ∃ A nW ca, (gs1 j).v = .slice A nW ca ∧ nW = (S.disks.getD j default).waits.length := by
        obtain ⟨A, ca, hva⟩ := own_shape2 (h1.disk j hjl).waits
        rw [hdk] at hva
        exact ⟨A, _, ca, hva, rfl⟩
      rw [hva] at k2
      have hst := Laid.start h1 j
      rw [hva, hdk] at hst
      have hfit := (h1.disk j hjl).fits
      rw [hdk] at hfit
      have hsuc := crashTo_succ S.on ks (j := j) (by rw [show S.on.disks.length = k from HKK.out]; exact hlt)
      have e0 : S.on.disks.getD j default = S.disks.getD j default := rfl
      rw [e0] at hsuc
      have hsec : (S.on.crashTo ks j).sectors = S.sectors := rfl
      have HSUC := Lib.hid hsuc
      have HST := Lib.hid hst
      have HFIT := Lib.hid hfit
      have HMV := Lib.hid hmv
      have HDK := Lib.hid hdk
      have HJL := Lib.hid hjl
      clear hst hfit hsuc hmv h1 hva hdk hrel e0 hjl hlen
      generalize hW : (S.disks.getD j default).waits = W at *
      subst hnW
      generalize hu0 : (S.disks.getD j default).sure = u0 at *
      have HU := Lib.hid hu0
      have HW := Lib.hid hW
      clear hu0 hW
      generalize hSS : S.on.crashTo ks j = SS at *
      clear hSS
      obtain ⟨w1, hw1⟩ : ∃ x, x = wr := ⟨_, rfl⟩
      subst hw1
      go_wp2
      go_loopw [6] (fun i wr => ∃ m : Nat, m ≤ W.length ∧ i = .int .i64 m ∧ Hid (Laid w1 wr q D1 SS F1 j (.slice A1 W.length ca) (stlTo (keptOf ks j) W m u0) false l)) (fun i _ => W.length - (intOf i).toNat)
      case atStart => exact ⟨0, Nat.zero_le _, rfl, HST⟩
      case round =>
        clear HST c0 k2
        obtain ⟨m, hm2, rfl, hrel⟩ := hrel
        obtain ⟨⟨Fr, gr, Lr, hr, hv, hFr⟩, hOr⟩ := hrel.out
        have hdr : j < (SS.withSure j (stlTo (keptOf ks j) W m u0)).disks.length := by unfold Sf.withSure; simpa using HJL.out
        have hlr : (SS.withSure j (stlTo (keptOf ks j) W m u0)).disks.length = SS.disks.length := by unfold Sf.withSure; simp
        have hwr := (hr.disk j hdr).waits
        rw [withSure_getD SS j _ HJL.out, hv, HDK.out] at hwr
        have hwr : wr.ownsRow 0 92 2 (.slice A1 W.length ca) W.length (flat W) := by
          have e : ({ S.disks.getD j default with sure := stlTo (keptOf ks j) W m u0 } : Dk).waits = W := HW.out
          rw [e] at hwr
          exact hwr
        by_cases hlt2 : m < W.length
        · obtain ⟨n2, b2, hjw⟩ : ∃ n2 b2, W[m]? = some (n2, b2) := ⟨_, _, List.getElem?_eq_getElem hlt2⟩
          obtain ⟨gv, cap2, he, _, hlc, hcm⟩ := own_form hwr (by omega)
          simp only [Value.slice.injEq, true_and] at he
          obtain ⟨rfl, rfl⟩ := he
          have hfl := flat_at _ _ _ _ hjw
          have x0 := cell_at hwr hfl.1
          have x1 := cell_at hwr hfl.2
          have hmem := HFIT.out _ (List.mem_of_getElem? hjw)
          have hr2 := hr.only (w' := wr.drew) (G := fun _ => False) ((Only.refl _ _).drew) (fun _ _ e => e)
          have HSE := Lib.hid (rset_any hr2 j n2 b2 hdr hmem.1 hmem.2)
          have HN := Lib.hid (fun w' g' hs => Laid.set (n := n2) (b := b2) (w' := w') (g' := g') hOr.drew hr2 hv hFr HJL.out hs)
          have HJ := Lib.hid hjw
          have HB := Lib.hid (show sv b2 = .string (strL b2) from rfl)
          have hmvs := HMV.out.trans ⟨hOr, hFr⟩
          have hk2 := HK.out.only hmvs.1 HG.out
          have hstep : stlTo (keptOf ks j) W (m + 1) u0 = if decide ((m : Int) ∈ ks.getD j []) = true then (stlTo (keptOf ks j) W m u0).set n2 b2 else stlTo (keptOf ks j) W m u0 := stlTo_succ _ _ _ _ hjw
          have HSTEP := Lib.hid hstep
          rw [HB.out] at HSE
          change _ = some (Value.string (strL b2)) at x1
          generalize strL b2 = s2 at *
          clear hwr hfl hmem hr hFr hjw hv hr2 hmvs hstep
          have HREL := Lib.hid hrel.out
          clear hrel
          have hOr : True := trivial
          clear hOr
          obtain ⟨w2, hw2⟩ : ∃ x, x = wr := ⟨_, rfl⟩
          subst hw2
          generalize hl3 : ks.getD j [] = l3 at *
          by_cases hjn : j < n
          · obtain ⟨ad, rfl, hab, hcs⟩ := hk2.2 (by omega)
            obtain ⟨A2, m2, cc2, hc1, hm3, hrd, _⟩ := hcs j hjn
            rw [hl3] at hrd
            have hll : l3.length = m2 := by rw [← hrd.1]; simp [ints]
            have HRD := Lib.hid hrd
            clear hcs hk2 hrd
            go_wp2
            go_loopw [7, 8] (fun is x wr => ∃ t : Nat, t ≤ m2 ∧ x = .int .i64 t ∧ is = .bool (decide ((m : Int) ∈ l3.take t)) ∧ w2 = wr) (fun _ x _ => m2 - (intOf x).toNat)
            case atStart => exact ⟨0, Nat.zero_le _, rfl, by simp, rfl⟩
            case round =>
              obtain ⟨t, ht, rfl, rfl, rfl⟩ := hrel
              by_cases hlt3 : t < m2
              · obtain ⟨ad2, u, hA2, _, hu, hcu⟩ := HRD.out.at_ hlt3
                rw [ints_get l3 t (by omega)] at hu
                injection hu with hu
                subst hu
                subst hA2
                have HTS := Lib.hid (in_take l3 t (m : Int) (by omega))
                generalize l3.getD t 0 = y at *
                cases hb : decide ((m : Int) ∈ l3.take t)
                · by_cases hy : y = (m : Int)
                  · have qd : (y == (m : Int)) = true := by rw [beq_iff_eq]; exact hy
                    have hnx : decide ((m : Int) ∈ l3.take (t + 1)) = true := by rw [HTS.out, decide_eq_true hy, Bool.or_true]
                    have HNX := Lib.hid hnx
                    clear hnx HTS hb hy
                    go_wp2
                    go_roundw
                    case rel => exact ⟨t + 1, by omega, by go_num, by rw [HNX.out], by trivial⟩
                    case measure => simp [intOf]; omega
                  · have qd : (y == (m : Int)) = false := by rw [beq_eq_false_iff_ne]; exact hy
                    have hnx : decide ((m : Int) ∈ l3.take (t + 1)) = false := by rw [HTS.out, decide_eq_false hy, hb]; rfl
                    have HNX := Lib.hid hnx
                    clear hnx HTS hb hy
                    go_wp2
                    go_roundw
                    case rel => exact ⟨t + 1, by omega, by go_num, by rw [HNX.out], by trivial⟩
                    case measure => simp [intOf]; omega
                · have hnx : decide ((m : Int) ∈ l3.take (t + 1)) = true := by rw [HTS.out, hb]; rfl
                  have HNX := Lib.hid hnx
                  clear hnx HTS hb
                  go_wp2
                  go_roundw
                  case rel => exact ⟨t + 1, by omega, by go_num, by rw [HNX.out], by trivial⟩
                  case measure => simp [intOf]; omega
              · obtain rfl : t = m2 := by omega
                have HTK := Lib.hid (show decide ((m : Int) ∈ l3.take t) = decide ((m : Int) ∈ l3) by rw [← hll, List.take_length])
                cases hb : decide ((m : Int) ∈ l3.take t)
                · go_wp2
                  go_roundw
                  case rel =>
                    refine ⟨m + 1, by omega, by go_num, Lib.hid ?_⟩
                    rw [HSTEP.out, if_neg (by rw [← HTK.out, hb]; decide)]
                    exact HREL.out
                  case measure => simp [intOf]; omega
                · go_wp2
                  go_still_tail 12, (by kernel_rfl)
                  change wpList _ _ _ _ _ w2.drew
                  go_wp2_with (go_at_call 51; refine HSE.out.mono ?_; rintro e w3 ⟨rfl, g', hset⟩)
                  go_roundw
                  case rel =>
                    refine ⟨m + 1, by omega, by go_num, Lib.hid ?_⟩
                    rw [HSTEP.out, if_pos (by rw [← HTK.out]; exact hb)]
                    exact HN.out _ _ hset
                  case measure => simp [intOf]; omega
          · have hnil : l3 = [] := by
              have := hk2.1
              rw [← hl3]
              simp [List.getD, List.getElem?_eq_none (show ks.length ≤ j by omega)]
            have hge : decide ((j : Int) < (n : Int)) = false := decide_eq_false (by omega)
            have HNIL := Lib.hid hnil
            clear hk2 hnil
            go_wp2
            go_loopw [7, 8] (fun is x wr => x = .int .i64 0 ∧ is = .bool false ∧ w2 = wr) (fun _ _ _ => 0)
            case atStart => exact ⟨rfl, rfl, rfl⟩
            case round =>
              obtain ⟨rfl, rfl, rfl⟩ := hrel
              have HTK : Hid (false = decide ((m : Int) ∈ l3)) := Lib.hid (by rw [HNIL.out]; simp)
              have hb : false = false := rfl
              go_wp2
              go_roundw
              case rel =>
                refine ⟨m + 1, by omega, by go_num, Lib.hid ?_⟩
                rw [HSTEP.out, if_neg (by rw [← HTK.out]; decide)]
                exact HREL.out
              case measure => simp [intOf]; omega
        · obtain rfl : m = W.length := by omega
          have c0 := hr.c0
          have f2 := hr.dfree (j * 4 + 2)
          have k2 := hr.dc hdr (c := 2) (by decide)
          rw [hlr] at c0
          simp only [diskR] at k2
          obtain ⟨F', gs', Ls', h2, hF2, hO2⟩ := Laid.end_ hOr hr hFr HJL.out
          have hend : Fell w (wr.setCell ⟨D1, j * 4 + 2, none⟩ (.slice none 0 0)) q F (S.on.crashTo ks (j + 1)) false l := by
            have e : ({ SS with disks := SS.disks.set j { sure := stlTo (keptOf ks j) W W.length u0, waits := [], dead := (SS.disks.getD j default).dead } } : Sf) = S.on.crashTo ks (j + 1) := by
              rw [← HSUC.out]
              unfold Dk.settle
              rw [HW.out, HU.out, stlTo_all, HDK.out]
            rw [e] at h2
            exact laid_moves HMV.out h2 hF2 hO2
          have HE := Lib.hid hend
          clear hend h2 hF2 hO2 hwr hr hFr hOr hv hrel
          go_wp2
          go_roundw
          case rel => exact ⟨j + 1, by omega, by go_num, HE⟩
          case measure => simp [intOf]; omega
    · obtain rfl : j = k := by omega
      have hend : RLeft F w q (S.crash ks) wr := by
        have e : S.crash ks = S.on.crashTo ks j := by rw [← HKK.out]; rfl
        rw [e]
        exact ⟨F1, ⟨_, _, _, _, _, h1⟩, hmv⟩
      have HE := Lib.hid hend
      clear hend h1 hmv hrel
      go_wp2
      go_end0
      exact ⟨rfl, HE.out⟩
end Go.Proofs.Ytbkcdomapdflaaa.Sh
