/-
  AllocOnce: no thing is taken twice, unless it was given back in between; all are taken before there is none.
  Conditions: the tables hold what the program's text lays.
-/
import Derived.Test.YtcnjpmcelihknaaGreatDoorZ48
import Derived.Test.YtcnjpmcelihknaaGreatDoorJf
namespace Go.Proofs.YtcnjpmcelihknaaGreatDoor.U.allocOnce
open Go.ChangeShapes Go.WideShapes Go.ChangeAt Go.RowKit Go.Maps
open Go.Proofs.YtcnjpmcelihknaaGreatDoor.Kj (begin12 lives12 BegunD DiskQ mine_at mine modN modN_lt mod12_any setT Alc open_alc tkA begun_free AlcB Bl new_bools allB allB_yes allB_no)
abbrev laidBoth : List (String × DataW Unit) := Go.Proofs.YtcnjpmcelihknaaGreatDoor.U.cacheNobody.laidBoth
theorem tabs_of_laid {W : World} (h : laidMetH Tryz.prog laidBoth W) : All10 W := Go.Proofs.YtcnjpmcelihknaaGreatDoor.U.cacheNobody.tabs_of_laid h

/-- What a Take tells. -/
def Told (k : Nat) (T : Nat → Bool) (n0 : Nat) (e0 : Int) (T2 : Nat → Bool) : Prop := (n0 < k ∧ T n0 = false ∧ e0 = 0 ∧ T2 = setT T n0 true) ∨ ((∀ j, j < k → T j = true) ∧ n0 = 0 ∧ e0 = 27 ∧ T2 = T)
theorem take_told {S : Go.Proofs.YtcnjpmcelihknaaGreatDoor.Kj.StoK} {G : Go.Proofs.YtcnjpmcelihknaaGreatDoor.Kj.Jg} {w : World} {m k : Nat} {O : Nat → Prop} {T : Nat → Bool} {b g : Nat} (h : AlcB S G w m 0 k O T (b + 10) g k T) :
    Calls Tryz.prog 47 #[.pointer (some ⟨m, 0, none⟩)] w fun e w' => ∃ (n0 : Nat) (e0 : Int) (T2 : Nat → Bool) (O2 : Nat → Prop), e = .returned (.tuple #[.int .i64 (n0 : Int), .int .i64 e0]) ∧ Told k T n0 e0 T2 ∧ AlcB S G w' m 0 k O2 T2 b g k T ∧ n0 ≤ 4096 ∧ -100 ≤ e0 ∧ e0 ≤ 100 := by
  have hk : k ≤ 4096 := by obtain ⟨s, h1, _⟩ := h.alc.ex; exact h1.cnt.2
  refine h.alc.take.mono ?_
  rintro e w' ⟨O', hmv, ⟨i, hi, ht, _, rfl, ha⟩ | ⟨hall, rfl, ha⟩⟩
  · exact ⟨i, 0, _, O', rfl, .inl ⟨hi, ht, rfl, rfl⟩, h.moved ha hmv, by omega, by decide, by decide⟩
  · exact ⟨0, 27, _, O', rfl, .inr ⟨hall, rfl, rfl, rfl⟩, h.moved ha hmv, by omega, by decide, by decide⟩
set_option maxRecDepth 100000 in
set_option maxHeartbeats 8000000 in
theorem walk {w : World} (ct : Int) (_ : -9223372036854775808 ≤ ct) (_ : ct ≤ 9223372036854775807) (A : Option Addr) (gn gc : Nat) (gf : Nat → Int) (hl : Go.Proofs.YtcnjpmcelihknaaGreatDoor.Kc.Ints10 w A gn gf) (hA : All10 w) :
    Calls Tryz.prog 8 #[.int .i64 ct, .slice A gn gc] w fun e w' => e = .returned (.bool true) ∧ Below w.heap.size w w' := by
  have HBG := Lib.hid (begin12 hA 14 (by decide) (by decide))
  have HLV := Lib.hid (fun (W : World) (hb : Below w.heap.size w W) => lives12 (hA.over hb))
  clear hA
  unfold BegunD at HBG
  have hM1 := modN_lt ct (show 0 < 60 by decide)
  have HM1 := Lib.hid (fun W => mod12_any ct 60 (by decide) (by decide) W)
  change Hid (∀ W, Calls _ _ #[.int .i64 ct, .int .i64 60] W _) at HM1
  generalize modN ct 60 = km at *
  have wk : wrap64 (1 + (km : Int)) = ((km + 1 : Nat) : Int) := by rw [IntWalk.wrap64_in _ ⟨by omega, by omega⟩]; omega
  obtain ⟨k, hk⟩ : ∃ k, km + 1 = k := ⟨_, rfl⟩
  rw [hk] at wk
  have hk1 : 1 ≤ k ∧ k ≤ 60 := by omega
  have HM2 := Lib.hid (fun x W => mod12_any x k (by omega) (by omega) W)
  have hgn := hl.1
  have HGF := Lib.hid (fun (W : World) (hb : Below w.heap.size w W) (i : Nat) (hi : i < gn) => show ∃ ad, A = some ad ∧ W.cell? (ad.add i) = some (.int .i64 (gf i)) from by
    obtain ⟨b, off, rfl, hlt, h⟩ := hl.2 (by omega)
    exact ⟨_, rfl, (hb.cell (p := (⟨b, off, none⟩ : Addr).add i) (by rw [Sh.block_of_add]; exact hlt)).trans (by rw [U.add_plain]; exact (h i hi).1)⟩)
  clear hM1 hk hl
  go_enter Tryz.func8, Tryz.ntmps8
  go_wp2_with fail
  refine (HM1.out _).mono ?_
  rintro e w0 ⟨rfl, rfl⟩
  go_wp2_with fail
  refine HBG.out.mono ?_
  rintro e w1 ⟨S, G, q, O, s, rfl, hd, hn, hfi, hle, hSB, hSW, hsR, hsf, hwq, hb⟩
  have HL := Lib.hid (HLV.out w1 hb)
  have HD := Lib.hid (And.intro hd (And.intro hb (And.intro hSB hSW)))
  have HM : Hid (∀ b, mine S G b ↔ b < 14) := Lib.hid (fun b => (mine_at hn hfi hle).trans (by omega))
  have HR := Lib.hid hsR
  have HT : Hid (∀ j, j < 4096 → tkA s.look 0 j = false) := Lib.hid fun j hj => begun_free hsR hsf 0 (by omega)
  clear hd hn hfi hle hSB hSW hsR hsf hwq hb HBG HLV
  go_wp2_with fail
  refine HL.out.mono ?_
  rintro e w2 ⟨rfl, hb2⟩
  have hd2 := HD.out.1.grown hb2
  have c2 := hd2.c2
  have HO := Lib.hid (open_alc (k := 370000) HR.out (hd2.jou.less (by decide)) 0 k ⟨hk1.1, by omega⟩ (fun i hi => (HM.out _).2 (by omega)))
  have HS := Lib.hid HD.out.2.2
  clear hb2 hd2 HL HD HM
  generalize tkA s.look 0 = T0 at *
  go_wp2_with fail
  refine HO.out.mono ?_
  rintro e w3 ⟨m, O3, rfl, ha, _, _⟩
  obtain ⟨w4, hmk, hb4, hbl4⟩ := new_bools w3 k (by omega)
  obtain ⟨gb, hgb⟩ : ∃ gb, w3.heap.size = gb := ⟨_, rfl⟩
  rw [hgb] at hmk hbl4
  have hrel0 : Hid (∃ Oi T, AlcB S G w4 m 0 k Oi T (370000 - 12 * 0) gb k T) := Lib.hid ⟨O3, T0, ha.grown hb4, hbl4.alike fun j hj => (HT.out j (by omega)).symm, fun e => by have := ha.lts _ e; omega, fun e => by have := ha.mlt; omega⟩
  clear ha HO c2 hb4 hbl4 hgb HT HR
  go_wp2
  go_loopw [10, 11, 12, 13, 14, 15] (fun s10 s11 s12 s13 s14 s15 wr => ∃ i : Nat, i ≤ 300 ∧ s10 = .int .i64 i ∧ Hid (∃ Oi T, AlcB S G wr m 0 k Oi T (370000 - 12 * i) gb k T)) (fun s10 _ _ _ _ _ _ => 300 - (intOf s10).toNat)
  case atStart => exact ⟨0, Nat.zero_le _, rfl, hrel0⟩
  case round =>
    obtain ⟨i, hi, rfl, hrel⟩ := hrel
    clear hrel0
    by_cases hL : (i : Int) < wrap64 (2 * (k : Int) + (gn : Int))
    · have qL : decide ((i : Int) < wrap64 (2 * (k : Int) + (gn : Int))) = true := by simpa using hL
      by_cases hlt : i < 300
      · obtain ⟨Oi, T, ha⟩ := hrel.out
        have HK := Lib.hid (take_told (ha.less (show 370000 - 12 * (i + 1) + 2 + 10 ≤ 370000 - 12 * i by omega)))
        clear ha hrel
        go_wp2_with fail
        refine HK.out.mono ?_
        rintro e w5 ⟨n0, e0, T2, O5, rfl, htold, hb5, hn0, he1, he2⟩
        have H5 := Lib.hid (And.intro htold hb5)
        clear htold hb5 HK
        go_wp2
        go_loopw [13, 14] (fun s13 s14 wr => ∃ x : Nat, x ≤ k ∧ s14 = .int .i64 x ∧ s13 = .bool (allB T x) ∧ w5 = wr) (fun _ s14 _ => k - (intOf s14).toNat)
        case atStart => exact ⟨0, Nat.zero_le _, rfl, rfl, rfl⟩
        case round =>
          obtain ⟨x, hx, rfl, rfl, rfl⟩ := hrel
          by_cases hltx : x < k
          · have cx := H5.out.2.row.at_ x hltx
            have HAB : Hid (allB T (x + 1) = (allB T x && T x)) := Lib.hid rfl
            cases hab : allB T x with
            | true =>
              rw [hab, Bool.true_and] at HAB
              go_wp2
              go_roundw
              case rel => exact ⟨x + 1, by omega, by go_num, by rw [HAB.out], trivial⟩
              case measure => simp [intOf]; omega
            | false =>
              rw [hab, Bool.false_and] at HAB
              go_wp2
              go_roundw
              case rel => exact ⟨x + 1, by omega, by go_num, by rw [HAB.out], trivial⟩
              case measure => simp [intOf]; omega
          · obtain rfl : x = k := by omega
            rcases H5.out.1 with ⟨h1, h2, rfl, rfl⟩ | ⟨h1, rfl, rfl, rfl⟩
            · have hab := allB_no h1 h2
              rw [hab]
              have cn := H5.out.2.row.at_ n0 h1
              rw [h2] at cn
              have fn := H5.out.2.row.free n0 h1
              have HX := Lib.hid (H5.out.2.set n0 h1 true)
              have hnT : n0 ≤ 4096 := by omega
              clear hab
              by_cases hgl : i < gn
              · have hbw := HX.out.alc.bel
                rw [HS.out.1, HS.out.2] at hbw
                obtain ⟨ad, hAe, hcg⟩ := HGF.out _ hbw i hgl
                subst hAe
                have hgq := modN_lt (gf i) (show 0 < x by omega)
                have HMQ := Lib.hid (HM2.out (gf i))
                generalize modN (gf i) x = gq at *
                have cq := HX.out.row.at_ gq hgq
                have fq := HX.out.row.free gq hgq
                have HLT := Lib.hid (And.intro HX.out.row.lt HX.out.out.1)
                have HG := Lib.hid (fun (W : World) (hb : Below (w5.setCell ⟨gb, n0, none⟩ (.bool true)).heap.size (w5.setCell ⟨gb, n0, none⟩ (.bool true)) W) => ((HX.out.grown hb).alc.less (show 370000 - 12 * (i + 1) + 2 ≤ 370000 - 12 * (i + 1) + 2 by omega)).give gq hgq)
                clear hbw
                cases hTq : (setT T n0 true) gq with
                | true =>
                  rw [hTq] at cq
                  rw [hTq, if_pos rfl] at HG
                  go_wp2_with fail
                  refine (HMQ.out _).mono ?_
                  rintro e w6 ⟨rfl, rfl⟩
                  go_wp2
                  refine wp_region_held_drew (S := fun (W : World) => W.cell? ⟨gb, gq, none⟩ = some (.bool true)) (by kernel_rfl) cq (fun hHeld => ?_)
                  refine tq 0 110 ?_
                  refine tq 1 111 ?_
                  refine tq 4 114 ?_
                  refine tq 5 115 ?_
                  refine tq 6 116 ?_
                  refine tq 7 117 ?_
                  refine rq 2 (some 112) fun K hK => ?_
                  go_simp
                  refine (HG.out _ (below_drewN (Below.refl _ _) 1)).mono ?_
                  rintro e w7 ⟨O7, hmv, rfl, ha7⟩
                  refine hK.out _ _ ((hmv.1.cell (p := ⟨gb, gq, none⟩) HLT.out.1 HLT.out.2).trans hHeld) (fun hHeld => ?_)
                  clear hK K
                  try simp only [Act.put, List.setIfInBounds_toArray, List.set_cons_zero, List.set_cons_succ]
                  refine tq 3 113 ?_
                  refine tq 8 118 ?_
                  refine wpAnyH_done (by kernel_rfl) ?_ _
                  have fq7 := (HX.out.grown (below_drewN (Below.refl _ _) 1)).moved ha7 hmv
                  have HN := Lib.hid (fq7.set gq hgq false)
                  have f7 := fq7.row.free gq hgq
                  have c7 := fq7.row.at_ gq hgq
                  clear fq7 ha7 hmv hHeld HG HMQ cq fq hcg
                  go_wp2
                  go_roundw
                  case rel => exact ⟨i + 1, by omega, by go_num, Lib.hid ⟨_, _, HN.out⟩⟩
                  case measure => simp [intOf]; omega
                | false =>
                  rw [hTq] at cq
                  rw [hTq, if_neg (by decide)] at HG
                  go_wp2_with fail
                  refine (HMQ.out _).mono ?_
                  rintro e w6 ⟨rfl, rfl⟩
                  go_wp2
                  refine wp_region_held_drew (S := fun (W : World) => W.cell? ⟨gb, gq, none⟩ = some (.bool false)) (by kernel_rfl) cq (fun hHeld => ?_)
                  refine tq 0 110 ?_
                  refine tq 1 111 ?_
                  refine tq 4 114 ?_
                  refine tq 5 115 ?_
                  refine tq 6 116 ?_
                  refine tq 7 117 ?_
                  refine rq 2 (some 112) fun K hK => ?_
                  go_simp
                  refine (HG.out _ (below_drewN (Below.refl _ _) 1)).mono ?_
                  rintro e w7 ⟨O7, hmv, rfl, ha7⟩
                  refine hK.out _ _ ((hmv.1.cell (p := ⟨gb, gq, none⟩) HLT.out.1 HLT.out.2).trans hHeld) (fun hHeld => ?_)
                  clear hK K
                  try simp only [Act.put, List.setIfInBounds_toArray, List.set_cons_zero, List.set_cons_succ]
                  refine tq 3 113 ?_
                  refine tq 8 118 ?_
                  refine wpAnyH_done (by kernel_rfl) ?_ _
                  have fq7 := (HX.out.grown (below_drewN (Below.refl _ _) 1)).moved ha7 hmv
                  have HN := Lib.hid (fq7.set gq hgq false)
                  have f7 := fq7.row.free gq hgq
                  have c7 := fq7.row.at_ gq hgq
                  clear fq7 ha7 hmv hHeld HG HMQ cq fq hcg
                  go_wp2
                  go_roundw
                  case rel => exact ⟨i + 1, by omega, by go_num, Lib.hid ⟨_, _, HN.out⟩⟩
                  case measure => simp [intOf]; omega
              · go_wp2
                go_roundw
                case rel => exact ⟨i + 1, by omega, by go_num, Lib.hid ⟨_, _, HX.out.less (by omega)⟩⟩
                case measure => simp [intOf]; omega
            · have hab := allB_yes h1
              rw [hab]
              have HX := Lib.hid H5.out.2
              clear hab
              by_cases hgl : i < gn
              · have hbw := HX.out.alc.bel
                rw [HS.out.1, HS.out.2] at hbw
                obtain ⟨ad, hAe, hcg⟩ := HGF.out _ hbw i hgl
                subst hAe
                have hgq := modN_lt (gf i) (show 0 < x by omega)
                have HMQ := Lib.hid (HM2.out (gf i))
                generalize modN (gf i) x = gq at *
                have cq := HX.out.row.at_ gq hgq
                have fq := HX.out.row.free gq hgq
                have HLT := Lib.hid (And.intro HX.out.row.lt HX.out.out.1)
                have HG := Lib.hid (fun (W : World) (hb : Below w5.heap.size w5 W) => ((HX.out.grown hb).alc.less (show 370000 - 12 * (i + 1) + 2 ≤ 370000 - 12 * (i + 1) + 2 by omega)).give gq hgq)
                clear hbw
                cases hTq : T2 gq with
                | true =>
                  rw [hTq] at cq
                  rw [hTq, if_pos rfl] at HG
                  go_wp2_with fail
                  refine (HMQ.out _).mono ?_
                  rintro e w6 ⟨rfl, rfl⟩
                  go_wp2
                  refine wp_region_held_drew (S := fun (W : World) => W.cell? ⟨gb, gq, none⟩ = some (.bool true)) (by kernel_rfl) cq (fun hHeld => ?_)
                  refine tq 0 110 ?_
                  refine tq 1 111 ?_
                  refine tq 4 114 ?_
                  refine tq 5 115 ?_
                  refine tq 6 116 ?_
                  refine tq 7 117 ?_
                  refine rq 2 (some 112) fun K hK => ?_
                  go_simp
                  refine (HG.out _ (below_drewN (Below.refl _ _) 1)).mono ?_
                  rintro e w7 ⟨O7, hmv, rfl, ha7⟩
                  refine hK.out _ _ ((hmv.1.cell (p := ⟨gb, gq, none⟩) HLT.out.1 HLT.out.2).trans hHeld) (fun hHeld => ?_)
                  clear hK K
                  try simp only [Act.put, List.setIfInBounds_toArray, List.set_cons_zero, List.set_cons_succ]
                  refine tq 3 113 ?_
                  refine tq 8 118 ?_
                  refine wpAnyH_done (by kernel_rfl) ?_ _
                  have fq7 := (HX.out.grown (below_drewN (Below.refl _ _) 1)).moved ha7 hmv
                  have HN := Lib.hid (fq7.set gq hgq false)
                  have f7 := fq7.row.free gq hgq
                  have c7 := fq7.row.at_ gq hgq
                  clear fq7 ha7 hmv hHeld HG HMQ cq fq hcg
                  go_wp2
                  go_roundw
                  case rel => exact ⟨i + 1, by omega, by go_num, Lib.hid ⟨_, _, HN.out⟩⟩
                  case measure => simp [intOf]; omega
                | false =>
                  rw [hTq] at cq
                  rw [hTq, if_neg (by decide)] at HG
                  go_wp2_with fail
                  refine (HMQ.out _).mono ?_
                  rintro e w6 ⟨rfl, rfl⟩
                  go_wp2
                  refine wp_region_held_drew (S := fun (W : World) => W.cell? ⟨gb, gq, none⟩ = some (.bool false)) (by kernel_rfl) cq (fun hHeld => ?_)
                  refine tq 0 110 ?_
                  refine tq 1 111 ?_
                  refine tq 4 114 ?_
                  refine tq 5 115 ?_
                  refine tq 6 116 ?_
                  refine tq 7 117 ?_
                  refine rq 2 (some 112) fun K hK => ?_
                  go_simp
                  refine (HG.out _ (below_drewN (Below.refl _ _) 1)).mono ?_
                  rintro e w7 ⟨O7, hmv, rfl, ha7⟩
                  refine hK.out _ _ ((hmv.1.cell (p := ⟨gb, gq, none⟩) HLT.out.1 HLT.out.2).trans hHeld) (fun hHeld => ?_)
                  clear hK K
                  try simp only [Act.put, List.setIfInBounds_toArray, List.set_cons_zero, List.set_cons_succ]
                  refine tq 3 113 ?_
                  refine tq 8 118 ?_
                  refine wpAnyH_done (by kernel_rfl) ?_ _
                  have fq7 := (HX.out.grown (below_drewN (Below.refl _ _) 1)).moved ha7 hmv
                  have HN := Lib.hid (fq7.set gq hgq false)
                  have f7 := fq7.row.free gq hgq
                  have c7 := fq7.row.at_ gq hgq
                  clear fq7 ha7 hmv hHeld HG HMQ cq fq hcg
                  go_wp2
                  go_roundw
                  case rel => exact ⟨i + 1, by omega, by go_num, Lib.hid ⟨_, _, HN.out⟩⟩
                  case measure => simp [intOf]; omega
              · go_wp2
                go_roundw
                case rel => exact ⟨i + 1, by omega, by go_num, Lib.hid ⟨_, _, HX.out.less (by omega)⟩⟩
                case measure => simp [intOf]; omega
      · go_wp2
        go_ret
        obtain ⟨Oi, T, ha⟩ := hrel.out
        have hbel := ha.alc.bel
        rw [HS.out.1, HS.out.2] at hbel
        exact ⟨rfl, hbel⟩
    · have qL : decide ((i : Int) < wrap64 (2 * (k : Int) + (gn : Int))) = false := by simpa using hL
      go_wp2
      go_ret
      obtain ⟨Oi, T, ha⟩ := hrel.out
      have hbel := ha.alc.bel
      rw [HS.out.1, HS.out.2] at hbel
      exact ⟨rfl, hbel⟩
set_option maxRecDepth 100000 in
/-- WHAT THE WALK GIVES, FOR EVERY ARGUMENT AND EVERY WORLD THAT HOLDS THE TABLES. -/
theorem contract (H : Type) (enc : TypeId × Value → H) (W : World) (base : Nat) (args : Array Value) (ds gs : List (DataW H)) (before : List MemPlace)
    (hval : ∀ (j : Nat) t v, Tryz.f8.params[j]? = some t → args[j]? = some v → Value.okWide Tryz.prog W .any base t v)
    (hW : DataW.Whole enc Tryz.prog Tryz.f8.params.toList Rows.allocOnceSpec.vars false W args.toList ds gs before)
    (hsz : (DataW.weightsEach Tryz.prog (Tryz.f8.params.toList ++ (OpenSpec.ofChange Rows.allocOnceSpec).bare.plain.varTypes Tryz.prog) (ds ++ gs)).all (· ≤ reachBytes) = true) (hL : laidMetH Tryz.prog laidBoth W) :
    Calls Tryz.prog 8 args W fun e W' => ∃ v, e = .returned v ∧ Rows.allocOnceSpec.post enc Tryz.prog Tryz.f8 false true false false W args v W' := by
  have hW' := hW
  obtain ⟨p, q, hA0, hV, rfl, hfz, hnd⟩ := hW
  have hA : DataW.TrodAll enc Tryz.prog W 0 (fun _ => true) true Tryz.f8.params.toList args.toList ds p := hA0
  have hsz2 : (DataW.weightsEach Tryz.prog (Tryz.f8.params.toList ++ []) (ds ++ gs)).all (· ≤ reachBytes) = true := hsz
  rw [Tryz.params8] at hA hval hsz2
  obtain ⟨v0, vs0, d0, ds0, p0, q0, hargs, rfl, rfl, h0, r0⟩ := trodAll_cons hA
  obtain ⟨v1, vs1, d1, ds1, p1, q1, rfl, rfl, rfl, h1, r1⟩ := trodAll_cons r0
  obtain ⟨rfl, rfl, rfl⟩ := trodAll_nil r1
  obtain rfl : args = #[v0, v1] := by cases args; simp_all
  obtain ⟨rfl, rfl⟩ := trodVars_none hV
  obtain ⟨a0, rfl, rfl, rfl, w0⟩ := open_int Tryz.underlying3 (hval 0 3 v0 rfl rfl) h0
  have bd0 := bounds_i64 w0
  obtain ⟨A1, n1, c1, rfl⟩ := okWide_slice Tryz.underlying22 (hval 1 22 v1 rfl rfl)
  have k1 := h1
  have lt1 : ∀ x ∈ p1, x.block < W.heap.size := by obtain ⟨m, hm⟩ := k1; exact DataW.trod_lt m _ _ _ hm
  obtain ⟨f1, hl1⟩ : ∃ f, Kc.Ints10 W A1 n1 f := by obtain ⟨fuel, hf⟩ := h1; exact Kc.ints10_in (by simpa [Value.cells] using hf)
  have hT := tabs_of_laid hL
  refine (walk a0 bd0.1 bd0.2 A1 n1 c1 f1 hl1 hT).mono fun e W' ⟨he, bel⟩ => ?_
  subst he
  exact ⟨_, rfl, _, _, _, [], _, [], hW', trodAll_mk1 (shut_bool Tryz.underlying4 _), (trodAll_cons_mk (shut_int Tryz.underlying3 w0) (trodAll_cons_mk (Below.trod laidOut (by kernel_rfl) (of_decide_eq_true (by kernel_rfl)) k1 bel lt1) trodAll_mk0)), rfl, bel.frame _, fun h => by cases h⟩

theorem laid_met (os : Os) : laidMetH Tryz.prog laidBoth ((laidWorld os).forCall (fun _ _ => 0) ⟨#[], #[.int .i64 0, .slice none 0 0], []⟩).memory :=
  laidMetH_of_parts3 (fuel := 8) (laidMet_of_run' 8 (by kernel_rfl) (by kernel_rfl)) (by kernel_rfl) (by kernel_rfl)
theorem reads (os : Os) {H : Type} (enc : TypeId × Value → H) : ∃ places, DataW.whole enc Tryz.prog ((laidWorld os).forCall (fun _ _ => 0) ⟨#[], #[.int .i64 0, .slice none 0 0], []⟩).memory Tryz.f8.params.toList Rows.allocOnceSpec.vars false (#[.int .i64 0, .slice none 0 0] : Array Value).toList 8 = some ([.lit (.int .i64 0), .nil], [], places) :=
  ⟨[], by kernel_rfl⟩
set_option maxRecDepth 100000 in
theorem lifted (os : Os) (started : os.Started) (H : Type) (enc : TypeId × Value → H) (F : Stop.Interp) :
    ReturnsInHanded {} Tryz.checked os 8 .any ((OpenSpec.ofChange Rows.allocOnceSpec).preRow enc Tryz.prog Tryz.f8 Rows.allocOnceRow.domain false Rows.allocOnceRow.laid) (((OpenSpec.ofChange Rows.allocOnceSpec).at F).post enc Tryz.prog Tryz.f8 false true false false) := by
  obtain ⟨places, hx⟩ := reads os enc
  refine returnsInHanded_of_row (C := Tryz.checked) (s := (OpenSpec.ofChange Rows.allocOnceSpec)) own started (by kernel_rfl) Tryz.func8
    (witness_row_at (enc := enc) (C := Tryz.checked) false (laidWorld os) #[.int .i64 0, .slice none 0 0] rfl (by kernel_rfl) (by kernel_rfl) (by kernel_rfl)
      (OpenSpec.preRow_of_cond 8 hx (by kernel_rfl) (fun k hk => by cases hk) (by kernel_rfl) (laid_met os))) ?_
  intro W base args ds gs before hval hW _ hcond hsz hL _ _
  exact contract H enc W base args ds gs before hval hW hsz hL
theorem closed_h1 : Jf.j1 Tryz.prog Tryz.f8 ((OpenSpec.ofChange Rows.allocOnceSpec)).bare Rows.allocOnceRow = true := by kernel_rfl
theorem closed_h2 : Jf.j2 Tryz.prog Tryz.f8 ((OpenSpec.ofChange Rows.allocOnceSpec)).bare Rows.allocOnceRow = true := by kernel_rfl
theorem closed_h3 : Jf.j3 Tryz.prog Tryz.f8 ((OpenSpec.ofChange Rows.allocOnceSpec)).bare Rows.allocOnceRow = true := by kernel_rfl
theorem closed_h4 : Jf.j4 Tryz.prog Rows.allocOnceRow = true := by kernel_rfl
theorem closed_h5 : Jf.j5 Tryz.prog Tryz.f8 Rows.allocOnceRow = true := by kernel_rfl
theorem closed_h6 : Jf.j6 Tryz.prog Tryz.f8 ((OpenSpec.ofChange Rows.allocOnceSpec)).bare Rows.allocOnceRow = true := by kernel_rfl
theorem closed_l1 : laidOutB Tryz.prog = true := by kernel_rfl
theorem closed_l2 : mapsRowed Tryz.prog = true := by kernel_rfl
theorem closed_l3 : Tryz.prog.stopsHeard = true := by kernel_rfl
theorem closed_l4 : Tryz.prog.mayEnter = true := by kernel_rfl
theorem closed_m1 : (Rows.allocOnceRow.inPlace == Tryz.prog.inPlace 8) = true := by kernel_rfl
theorem closed_m2 : (Rows.allocOnceRow.unfollowed == Tryz.prog.unfollowed 8) = true := by kernel_rfl
theorem closed_m3 : (Rows.allocOnceRow.recurses == Tryz.prog.recurses 8) = true := by kernel_rfl
theorem closed_m4 : (Rows.allocOnceRow.named == Tryz.prog.varsNamed 8) = true := by kernel_rfl
theorem closed : joinedFacts Tryz.pinned.checked.prog 8 Tryz.f8 ((OpenSpec.ofChange Rows.allocOnceSpec)).bare Rows.allocOnceRow = true :=
  Jf.joined_of closed_h1 closed_h2 closed_h3 closed_h4 closed_h5 closed_h6 closed_l1 closed_l2 closed_l3 closed_l4 closed_m1 closed_m2 closed_m3 closed_m4
theorem said : Rows.AllocOnceSaid :=
  OpenClaim.holds_of_cond 8 Tryz.f8 rfl rfl rfl rfl rfl rfl rfl ⟨rfl, rfl, rfl, rfl, rfl⟩ rfl rfl rfl rfl rfl (by kernel_rfl) Tryz.func8 closed
    (of_decide_eq_true (by kernel_rfl)) (by unfold Func.isWrapper; first | (rw [if_pos (by decide +kernel)]; kernel_rfl) | (rw [if_neg (by decide +kernel)]; exact ⟨rfl, rfl⟩))
    (fun os started H enc _ F => by rw [OpenClaim.pre_eq_preRow]; exact lifted os started H enc F)
theorem plain (f : FuncId) (fn : Func) (hf : Tryz.pinned.checked.prog.funcNamed "ashlar/ashlarlaw12.AllocOnce" = some f) (hfn : Tryz.pinned.checked.prog.funcs[f]? = some fn) :
    false = Tryz.pinned.checked.prog.looks [] ∧ ∀ (j : Nat) t, fn.params[j]? = some t → Tryz.pinned.checked.prog.wantsStandIn t = false := by
  obtain rfl : f = 8 := Option.some.inj ((show Tryz.prog.funcNamed "ashlar/ashlarlaw12.AllocOnce" = some 8 by kernel_rfl).symm.trans hf) |>.symm
  obtain rfl : fn = Tryz.f8 := (Option.some.inj (Tryz.func8.symm.trans hfn)).symm
  refine ⟨by kernel_rfl, fun j t ht => ?_⟩
  rw [Tryz.params8] at ht
  have hm : t ∈ [3, 22] := by simpa using Array.mem_of_getElem? ht
  have hall : ([3, 22].all fun u => !Tryz.prog.wantsStandIn u) = true := by kernel_rfl
  exact (show Tryz.prog.wantsStandIn t = false by simpa using List.all_eq_true.1 hall t hm)

/-- ████ THE CARD ████ -/
theorem card : Rows.AllocOnceCardSaid :=
  Claim7.holds_tied_plain_at .later [] _ _ _ _ said (fun _ h => by cases h) (by kernel_rfl) (fun _ h => by cases h) allocOnce_row_tie rfl ⟨rfl, rfl⟩ (by kernel_rfl) rfl plain (by kernel_rfl)
end Go.Proofs.YtcnjpmcelihknaaGreatDoor.U.allocOnce
