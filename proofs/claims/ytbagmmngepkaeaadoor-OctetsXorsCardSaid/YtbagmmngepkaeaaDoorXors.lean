/-
  OctetsXors is true for every two slices of bytes: byte by byte the exclusive or, as the definition says; what is handed in stays; the answer is memory of its own.
  Conditions: none of its own; the two tables of the sum hold what the program's text lays (the card ties that).
-/
import Derived.Test.YtbagmmngepkaeaaDoorFrame
namespace Go.Proofs.YtbagmmngepkaeaaDoor.octetsXors
open Go.ChangeShapes Go.WideShapes Go.ChangeAt Go.RowKit

theorem xorL_length (a b : List Nat) : (xorL a b).length = a.length := by rw [xorL, tab_length]
theorem xorL_small {a b : List Nat} (ha : Small a) (hb : Small b) : Small (xorL a b) := tab_small fun i _ => Nums.xor_lt_256 (ha.get i) (hb.get i)
theorem set_small {l : List Nat} (h : Small l) (i y : Nat) (hy : y < 256) : Small (l.set i y) := by
  intro x hx
  rcases List.mem_or_eq_of_mem_set hx with h1 | h1
  · exact h x h1
  · rw [h1]; exact hy

/-- What stays while the answer's bytes are counted up. -/
def Keep (b3 b4 n c4 c5 : Nat) (A4 A5 A2 A3 A B : Option Addr) (l k lc : List Nat) (w wr : World) : Prop :=
  lc.length = n ∧ Small lc ∧ wr.ownsRow b3 5 1 (.slice A4 n c4) n (bts lc) ∧ wr.ownsRow b4 5 1 (.slice A5 n c5) n (bts (xorL l k)) ∧
      Reads wr b3 A2 n (bts l) ∧ Reads wr b3 A3 n (bts k) ∧ Reads wr b3 A n (bts l) ∧ Reads wr b3 B n (bts k) ∧ Below w.heap.size w wr ∧ b4 ≤ wr.heap.size

set_option maxHeartbeats 1600000 in
theorem walk_same {w : World} (A : Option Addr) (n c : Nat) (l : List Nat) (hl : Small l) (hr : Reads w w.heap.size A n (bts l)) (hn : n ≤ 140737488351232)
    (B : Option Addr) (d : Nat) (k : List Nat) (hk : Small k) (hr2 : Reads w w.heap.size B n (bts k)) (hT : Tabs w) :
    Calls Tryd.prog 8 #[.slice A n c, .slice B n d] w fun e w' => e = .returned (.bool true) ∧ Below w.heap.size w w' := by
  have hsz := hT.size
  obtain ⟨i0, hi, hz0, hz1, hz2⟩ := info_parts info_u8
  have hxs := xorL_small hl hk
  have hxl : (xorL l k).length = n := by rw [xorL_length, hr.len]
  have Hxl := Lib.hid hxl
  clear hxl
  go_enter Tryd.func8, Tryd.ntmps8
  go_wp2_with (first
    | (at_builtin; refine appendAll _ rfl (.tmp 14) (.tmp 15) 23 rfl w.heap.size 5 i0 (.int .u8 0) 1 Tryd.underlying23 hi hz0 hz1 hz2 rfl (.slice (some ⟨w.heap.size, 0, none⟩) 0 0) 0 [] rfl (by exact World.ownsRow_made w #[] 0 (Nat.le_refl _) (by decide) rfl) w.heap.size A n c (bts l) rfl (hr.alloc (Nat.le_refl _) _) (bts_one l) (by unfold maxLen; omega) (by omega) w (by exact (Below.refl _ _).alloc (Nat.le_refl _) _) (by simp) ?_; intro v2 w2 hown2 hgr2 hbel2)
    | (at_builtin; refine appendAll _ rfl (.tmp 17) (.tmp 18) 23 rfl w2.heap.size 5 i0 (.int .u8 0) 1 Tryd.underlying23 hi hz0 hz1 hz2 rfl (.slice (some ⟨w2.heap.size, 0, none⟩) 0 0) 0 [] rfl (by exact World.ownsRow_made w2 #[] 0 (Nat.le_refl _) (by decide) rfl) w.heap.size B n d (bts k) rfl ((hr2.below hbel2).alloc hbel2.size _) (bts_one k) (by unfold maxLen; omega) (by omega) w2 (by exact (Below.refl _ _).alloc (Nat.le_refl _) _) (by simp) ?_; intro v3 w3 hown3 hgr3 hbel3))
  rw [Nat.zero_add, List.nil_append] at hown2 hown3
  obtain ⟨A2, c2, rfl, hrx, _, _⟩ := own_shape hown2
  obtain ⟨A3, c3, rfl, hry, _, _⟩ := own_shape hown3
  have hrx3 := reads_over hrx hbel3
  have hrA3 := reads_over (reads_over hr hbel2) hbel3
  have hrB3 := reads_over (reads_over hr2 hbel2) hbel3
  have hbw3 := below_on hbel2 hbel3
  clear hown2 hown3 hgr2 hgr3 hbel2 hbel3 hrx hr hr2
  refine (xor_ok A2 A3 n c2 c3 _ l k w3 hl hk hrx3 hry (Nat.le_refl _) hn).mono ?_
  rintro e w4 ⟨v4, rfl, hown4, hb4⟩
  rw [Hxl.out] at hown4
  obtain ⟨A4, c4, rfl, _, _, _⟩ := own_shape hown4
  have hg4 : ∀ g, A4 = some ⟨g, 0, none⟩ → g < w4.heap.size := fun g hg => (hown4.lt g (by rw [hg]; rfl)).2
  have hrx4 := hrx3.below hb4
  have hry4 := hry.below hb4
  have hrA4 := hrA3.below hb4
  have hrB4 := hrB3.below hb4
  have hbw4 := below_on hbw3 hb4
  have hz34 := hb4.size
  have hz3 := hbw3.size
  clear hrx3 hry hrA3 hrB3 hb4
  go_wp2_with fail
  refine (refXor_ok A B n c d _ l k w4 hl hk (hrA4.more hz34) (hrB4.more hz34) (Nat.le_refl _) hn).mono ?_
  rintro e w5 ⟨v5, rfl, hown5, hb5⟩
  rw [Hxl.out] at hown5
  obtain ⟨A5, c5, rfl, _, _, _⟩ := own_shape hown5
  have hown45 := hown4.kept (row := none) ⟨hb5.os, hb5.tape, hb5.output, hb5.size, fun i hi _ => hb5.block i hi⟩ (by cases A4 <;> simp [Value.ownBlock])
  have hrx5 := hrx4.below (hb5.mono hz34)
  have hry5 := hry4.below (hb5.mono hz34)
  have hrA5 := hrA4.below (hb5.mono hz34)
  have hrB5 := hrB4.below (hb5.mono hz34)
  have hbw5 := below_on hbw4 hb5
  have hz45 := hb5.size
  clear hown4 hrx4 hry4 hrA4 hrB4 hbw4 hb5
  generalize hw3s : w3.heap.size = b3 at *
  generalize hw4s : w4.heap.size = b4 at *
  have Hw3s := Lib.hid hw3s
  clear hw3s hw4s
  go_wp2_with fail
  go_loopw [11] (fun s11 wr => ∃ (i : Nat) (lc : List Nat), i ≤ n ∧ s11 = .int .i64 i ∧ Keep b3 b4 n c4 c5 A4 A5 A2 A3 A B l k lc w wr) (fun s11 _ => n - (intOf s11).toNat)
  case atStart => exact ⟨0, xorL l k, Nat.zero_le _, rfl, Hxl.out, hxs, hown45, hown5, hrx5, hry5, hrA5, hrB5, hbw5, hz45⟩
  case round =>
    obtain ⟨i, lc, hi2, rfl, HR⟩ := hrel
    clear hown45 hown5 hrx5 hry5 hrA5 hrB5 hbw5
    by_cases hlt : i < n
    · obtain ⟨hlc, hsm, hc, hd, rx, ry, ra, rb, bw, hzr⟩ := HR
      obtain ⟨g, cap, hv, hgb, hgl⟩ := hc.form (by omega)
      injection hv with hA4 _ hc4
      subst hA4; subst hc4
      have hg4b := hg4 g rfl
      have hcell := hc.cellAt i (by omega)
      rw [bts_get _ _ (by omega)] at hcell
      have hfz := hc.frozenAt i
      have hy := hsm.get i
      have hst := (hc.stored i (.int .u8 (((lc.getD i 0 + 1) % 256 : Nat) : Int))).1
      rw [bts_set] at hst
      have hds := ownsRow_setCell_below hd (a := ⟨g, i, none⟩) hg4b (.int .u8 (((lc.getD i 0 + 1) % 256 : Nat) : Int))
      have hnext : Keep b3 b4 n c4 c5 (some ⟨g, 0, none⟩) A5 A2 A3 A B l k (lc.set i ((lc.getD i 0 + 1) % 256)) w (wr.setCell ⟨g, i, none⟩ (.int .u8 (((lc.getD i 0 + 1) % 256 : Nat) : Int))) :=
        ⟨by rw [List.length_set, hlc], set_small hsm i _ (Nat.mod_lt _ (by decide)), hst, hds, rx.setCell (p := ⟨g, i, none⟩) hgb _, ry.setCell (p := ⟨g, i, none⟩) hgb _, ra.setCell (p := ⟨g, i, none⟩) hgb _, rb.setCell (p := ⟨g, i, none⟩) hgb _, bw.setCell (p := ⟨g, i, none⟩) (Nat.le_trans hz3 hgb) _, by simpa using hzr⟩
      have he : ((lc.getD i 0 : Nat) : Int) + 1 = (((lc.getD i 0 + 1 : Nat)) : Int) := by omega
      clear hst hds hc hd rx ry ra rb bw hlc
      generalize lc.set i ((lc.getD i 0 + 1) % 256) = lc2 at *
      generalize lc.getD i 0 = y at *
      clear he
      have hyw : Hid ((((y + 1) % 256 : Nat) : Int) = ((y : Int) + 1) % 256) := Lib.hid (by omega)
      rw [hyw.out] at hnext
      go_wp2
      go_roundw
      case rel => exact ⟨i + 1, lc2, by omega, by go_num, hnext⟩
      case measure => simp [intOf]; omega
    · obtain ⟨hlc, hsm, hc, hd, rx, ry, ra, rb, bw, hzr⟩ := HR
      obtain ⟨A5', c5', hv5, rd, _, _⟩ := own_shape hd
      injection hv5 with h5a _ h5c
      subst h5a; subst h5c
      clear hc hd hsm hlc
      go_wp2_with fail
      refine (xor_ok A2 A3 n c2 c3 b3 l k wr hl hk rx ry (Nat.le_trans hz34 hzr) hn).mono ?_
      rintro e w6 ⟨v6, rfl, hown6, hb6⟩
      rw [Hxl.out] at hown6
      obtain ⟨A6, c6, rfl, r6, _, _⟩ := own_shape hown6
      have hzr3 := Nat.le_trans hz34 hzr
      have rx6 := reads_over (rx.more hzr3) hb6
      have ry6 := reads_over (ry.more hzr3) hb6
      have ra6 := reads_over (ra.more hzr3) hb6
      have rb6 := reads_over (rb.more hzr3) hb6
      have rd6 := reads_over rd hb6
      have bw6 := below_on bw hb6
      clear hown6 hb6 rx ry ra rb rd bw
      go_wp2_with fail
      refine (lives_yes w6 (hT.below hsz bw6)).mono ?_
      rintro e w7 ⟨rfl, hb7⟩
      have s6 := run_str c6 (reads_over r6 hb7)
      have sx := run_str c2 (reads_over rx6 hb7)
      have sy := run_str c3 (reads_over ry6 hb7)
      have sa := run_str c (reads_over ra6 hb7)
      have sb := run_str d (reads_over rb6 hb7)
      have sd := run_str c5 (reads_over rd6 hb7)
      have bw7 := below_on bw6 hb7
      clear r6 rx6 ry6 ra6 rb6 rd6 bw6 hb7
      go_wp2_with fail
      go_ret
      exact ⟨rfl, bw7⟩

set_option maxHeartbeats 1600000 in
theorem walk_diff {w : World} (A : Option Addr) (n c : Nat) (l : List Nat) (hr : Reads w w.heap.size A n (bts l)) (hn : n ≤ 140737488351232)
    (B : Option Addr) (m d : Nat) (k : List Nat) (hr2 : Reads w w.heap.size B m (bts k)) (hm : m ≤ 140737488351232) (hT : Tabs w) (hnm : n ≠ m) :
    Calls Tryd.prog 8 #[.slice A n c, .slice B m d] w fun e w' => e = .returned (.bool true) ∧ Below w.heap.size w w' := by
  have hsz := hT.size
  obtain ⟨i0, hi, hz0, hz1, hz2⟩ := info_parts info_u8
  go_enter Tryd.func8, Tryd.ntmps8
  go_wp2_with (first
    | (at_builtin; refine appendAll _ rfl (.tmp 14) (.tmp 15) 23 rfl w.heap.size 5 i0 (.int .u8 0) 1 Tryd.underlying23 hi hz0 hz1 hz2 rfl (.slice (some ⟨w.heap.size, 0, none⟩) 0 0) 0 [] rfl (by exact World.ownsRow_made w #[] 0 (Nat.le_refl _) (by decide) rfl) w.heap.size A n c (bts l) rfl (hr.alloc (Nat.le_refl _) _) (bts_one l) (by unfold maxLen; omega) (by omega) w (by exact (Below.refl _ _).alloc (Nat.le_refl _) _) (by simp) ?_; intro v2 w2 hown2 hgr2 hbel2)
    | (at_builtin; refine appendAll _ rfl (.tmp 17) (.tmp 18) 23 rfl w2.heap.size 5 i0 (.int .u8 0) 1 Tryd.underlying23 hi hz0 hz1 hz2 rfl (.slice (some ⟨w2.heap.size, 0, none⟩) 0 0) 0 [] rfl (by exact World.ownsRow_made w2 #[] 0 (Nat.le_refl _) (by decide) rfl) w.heap.size B m d (bts k) rfl ((hr2.below hbel2).alloc hbel2.size _) (bts_one k) (by unfold maxLen; omega) (by omega) w2 (by exact (Below.refl _ _).alloc (Nat.le_refl _) _) (by simp) ?_; intro v3 w3 hown3 hgr3 hbel3))
  rw [Nat.zero_add, List.nil_append] at hown2 hown3
  obtain ⟨A2, c2, rfl, hrx, _, _⟩ := own_shape hown2
  obtain ⟨A3, c3, rfl, hry, _, _⟩ := own_shape hown3
  have hrx3 := reads_over hrx hbel3
  have hrA3 := reads_over (reads_over hr hbel2) hbel3
  have hrB3 := reads_over (reads_over hr2 hbel2) hbel3
  have hbw3 := below_on hbel2 hbel3
  clear hown2 hown3 hgr2 hgr3 hbel2 hbel3 hrx hr hr2
  have Hnm := Lib.hid hnm
  clear hnm
  refine (xor_no A2 A3 n m c2 c3 w3 Hnm.out).mono ?_
  rintro e w' ⟨rfl, rfl⟩
  go_wp2_with fail
  refine (refXor_no A B n m c d w3 Hnm.out).mono ?_
  rintro e w4 ⟨rfl, hb4⟩
  have rx4 := reads_over hrx3 hb4
  have ry4 := reads_over hry hb4
  have ra4 := reads_over hrA3 hb4
  have rb4 := reads_over hrB3 hb4
  have bw4 := below_on hbw3 hb4
  clear hrx3 hry hrA3 hrB3 hbw3 hb4
  go_wp2_with fail
  go_loop [11] (fun s11 => s11 = .int .i64 0) (fun _ => 0)
  case atStart => rfl
  case round =>
    subst hrel
    go_wp2_with fail
    refine (xor_no A2 A3 n m c2 c3 w4 Hnm.out).mono ?_
    rintro e w' ⟨rfl, rfl⟩
    go_wp2_with fail
    refine (lives_yes w4 (hT.below hsz bw4)).mono ?_
    rintro e w7 ⟨rfl, hb7⟩
    have sx := run_str c2 (reads_over rx4 hb7)
    have sy := run_str c3 (reads_over ry4 hb7)
    have sa := run_str c (reads_over ra4 hb7)
    have sb := run_str d (reads_over rb4 hb7)
    have s0 := run_str (w := w7) (l := []) 0 (Reads.none_ (B := 0) (A := none))
    have bw7 := below_on bw4 hb7
    clear rx4 ry4 ra4 rb4 bw4 hb7
    go_wp2_with fail
    go_ret
    exact ⟨rfl, bw7⟩

theorem walk {w : World} (A : Option Addr) (n c : Nat) (l : List Nat) (hl : Small l) (hr : Reads w w.heap.size A n (bts l)) (hn : n ≤ 140737488351232)
    (B : Option Addr) (m d : Nat) (k : List Nat) (hk : Small k) (hr2 : Reads w w.heap.size B m (bts k)) (hm : m ≤ 140737488351232) (hT : Tabs w) :
    Calls Tryd.prog 8 #[.slice A n c, .slice B m d] w fun e w' => e = .returned (.bool true) ∧ Below w.heap.size w w' := by
  by_cases h : n = m
  · subst h
    exact walk_same A n c l hl hr hn B d k hk hr2 hT
  · exact walk_diff A n c l hr hn B m d k hr2 hm hT h

set_option maxRecDepth 100000 in
/-- WHAT THE WALK GIVES, FOR EVERY ARGUMENT AND EVERY WORLD THAT HOLDS THE TABLES. -/
theorem contract (H : Type) (enc : TypeId × Value → H) (W : World) (base : Nat) (args : Array Value) (ds gs : List (DataW H)) (before : List MemPlace)
    (hval : ∀ (j : Nat) t v, Tryd.f8.params[j]? = some t → args[j]? = some v → Value.okWide Tryd.prog W .any base t v)
    (hW : DataW.Whole enc Tryd.prog Tryd.f8.params.toList Rows.octetsXorsSpec.vars false W args.toList ds gs before)
    (hsz : (DataW.weightsEach Tryd.prog (Tryd.f8.params.toList ++ (OpenSpec.ofChange Rows.octetsXorsSpec).bare.plain.varTypes Tryd.prog) (ds ++ gs)).all (· ≤ reachBytes) = true) (hL : laidMetH Tryd.prog laidBoth W) :
    Calls Tryd.prog 8 args W fun e W' => ∃ v, e = .returned v ∧ Rows.octetsXorsSpec.post enc Tryd.prog Tryd.f8 false true false false W args v W' := by
  have hW' := hW
  obtain ⟨p, q, hA0, hV, rfl, hfz, hnd⟩ := hW
  have hA : DataW.TrodAll enc Tryd.prog W 0 (fun _ => true) true Tryd.f8.params.toList args.toList ds p := hA0
  have hsz2 : (DataW.weightsEach Tryd.prog (Tryd.f8.params.toList ++ []) (ds ++ gs)).all (· ≤ reachBytes) = true := hsz
  rw [Tryd.params8] at hA hval hsz2
  obtain ⟨v0, vs0, d0, ds0, p0, q0, hargs, rfl, rfl, h0, r0⟩ := trodAll_cons hA
  obtain ⟨v1, vs1, d1, ds1, p1, q1, rfl, rfl, rfl, h1, r1⟩ := trodAll_cons r0
  obtain ⟨rfl, rfl, rfl⟩ := trodAll_nil r1
  obtain rfl : args = #[v0, v1] := by cases args; simp_all
  obtain ⟨rfl, rfl⟩ := trodVars_none hV
  obtain ⟨A0, n0, c0, rfl⟩ := okWide_slice Tryd.underlying23 (hval 0 23 v0 rfl rfl)
  have k0 := h0
  have lt0 : ∀ x ∈ p0, x.block < W.heap.size := by obtain ⟨m, hm⟩ := k0; exact DataW.trod_lt m _ _ _ hm
  obtain ⟨l0, sl0, rd0, nc0, _, dd0⟩ : ∃ l, Small l ∧ Reads W W.heap.size A0 n0 (bts l) ∧ n0 ≤ c0 ∧ c0 ≤ maxLen ∧ ((d0 = .nil ∧ c0 = 0) ∨ ∃ es sp, d0 = .slice es sp ∧ es.length + sp.length = c0) := by obtain ⟨fuel, hf⟩ := h0; exact bytes_in (by simpa [Value.cells] using hf)
  have b0 : n0 ≤ 140737488351232 := by
    rcases dd0 with ⟨_, hc0⟩ | ⟨es, sp, hd, hc0⟩
    · omega
    · have := sized_slice (P := Tryd.prog) hsz2 (j := 0) (t := 23) (e := 5) rfl (by rw [hd]; rfl) Tryd.underlying23
      rw [bytesU8] at this; simp only [reachBytes] at this; omega
  obtain ⟨A1, n1, c1, rfl⟩ := okWide_slice Tryd.underlying23 (hval 1 23 v1 rfl rfl)
  have k1 := h1
  have lt1 : ∀ x ∈ p1, x.block < W.heap.size := by obtain ⟨m, hm⟩ := k1; exact DataW.trod_lt m _ _ _ hm
  obtain ⟨l1, sl1, rd1, nc1, _, dd1⟩ : ∃ l, Small l ∧ Reads W W.heap.size A1 n1 (bts l) ∧ n1 ≤ c1 ∧ c1 ≤ maxLen ∧ ((d1 = .nil ∧ c1 = 0) ∨ ∃ es sp, d1 = .slice es sp ∧ es.length + sp.length = c1) := by obtain ⟨fuel, hf⟩ := h1; exact bytes_in (by simpa [Value.cells] using hf)
  have b1 : n1 ≤ 140737488351232 := by
    rcases dd1 with ⟨_, hc0⟩ | ⟨es, sp, hd, hc0⟩
    · omega
    · have := sized_slice (P := Tryd.prog) hsz2 (j := 1) (t := 23) (e := 5) rfl (by rw [hd]; rfl) Tryd.underlying23
      rw [bytesU8] at this; simp only [reachBytes] at this; omega
  have hT := tabs_of_laid hL
  refine (walk A0 n0 c0 l0 sl0 rd0 b0 A1 n1 c1 l1 sl1 rd1 b1 hT).mono fun e W' ⟨he, bel⟩ => ?_
  subst he
  exact ⟨_, rfl, _, _, _, [], _, [], hW', trodAll_mk1 (shut_bool Tryd.underlying4 _), (trodAll_cons_mk (Below.trod laidOut (by kernel_rfl) (of_decide_eq_true (by kernel_rfl)) k0 bel lt0) (trodAll_cons_mk (Below.trod laidOut (by kernel_rfl) (of_decide_eq_true (by kernel_rfl)) k1 bel lt1) trodAll_mk0)), rfl, bel.frame _, fun h => by cases h⟩

theorem laid_met (os : Os) : laidMetH Tryd.prog laidBoth ((laidWorld os).forCall (fun _ _ => 0) ⟨#[], #[.slice none 0 0, .slice none 0 0], []⟩).memory :=
  laidMetH_of_parts3 (fuel := 8) (laidMet_of_run' 8 (by kernel_rfl) (by kernel_rfl)) (by kernel_rfl) (by kernel_rfl)
theorem reads (os : Os) {H : Type} (enc : TypeId × Value → H) : ∃ places, DataW.whole enc Tryd.prog ((laidWorld os).forCall (fun _ _ => 0) ⟨#[], #[.slice none 0 0, .slice none 0 0], []⟩).memory Tryd.f8.params.toList Rows.octetsXorsSpec.vars false (#[.slice none 0 0, .slice none 0 0] : Array Value).toList 8 = some ([.nil, .nil], [], places) :=
  ⟨[], by kernel_rfl⟩
set_option maxRecDepth 100000 in
theorem lifted (os : Os) (started : os.Started) (H : Type) (enc : TypeId × Value → H) (F : Stop.Interp) :
    ReturnsInHanded {} Tryd.checked os 8 .any ((OpenSpec.ofChange Rows.octetsXorsSpec).preRow enc Tryd.prog Tryd.f8 Rows.octetsXorsRow.domain false Rows.octetsXorsRow.laid) (((OpenSpec.ofChange Rows.octetsXorsSpec).at F).post enc Tryd.prog Tryd.f8 false true false false) := by
  obtain ⟨places, hx⟩ := reads os enc
  refine returnsInHanded_of_row (C := Tryd.checked) (s := (OpenSpec.ofChange Rows.octetsXorsSpec)) own started (by kernel_rfl) Tryd.func8
    (witness_row_at (enc := enc) (C := Tryd.checked) false (laidWorld os) #[.slice none 0 0, .slice none 0 0] rfl (by kernel_rfl) (by kernel_rfl) (by kernel_rfl)
      (OpenSpec.preRow_of_cond 8 hx (by kernel_rfl) (fun k hk => by cases hk) (by kernel_rfl) (laid_met os))) ?_
  intro W base args ds gs before hval hW _ hcond hsz hL _ _
  exact contract H enc W base args ds gs before hval hW hsz hL
theorem said : Rows.OctetsXorsSaid :=
  OpenClaim.holds_of_cond 8 Tryd.f8 rfl rfl rfl rfl rfl rfl rfl ⟨rfl, rfl, rfl, rfl, rfl⟩ rfl rfl rfl rfl rfl (by kernel_rfl) Tryd.func8 (by kernel_rfl)
    (of_decide_eq_true (by kernel_rfl)) (by unfold Func.isWrapper; first | (rw [if_pos (by decide +kernel)]; kernel_rfl) | (rw [if_neg (by decide +kernel)]; exact ⟨rfl, rfl⟩))
    (fun os started H enc _ F => by rw [OpenClaim.pre_eq_preRow]; exact lifted os started H enc F)
theorem plain (f : FuncId) (fn : Func) (hf : Tryd.pinned.checked.prog.funcNamed "ashlar/ashlarlaw01.OctetsXors" = some f) (hfn : Tryd.pinned.checked.prog.funcs[f]? = some fn) :
    false = Tryd.pinned.checked.prog.looks [] ∧ ∀ (j : Nat) t, fn.params[j]? = some t → Tryd.pinned.checked.prog.wantsStandIn t = false := by
  obtain rfl : f = 8 := Option.some.inj ((show Tryd.prog.funcNamed "ashlar/ashlarlaw01.OctetsXors" = some 8 by kernel_rfl).symm.trans hf) |>.symm
  obtain rfl : fn = Tryd.f8 := (Option.some.inj (Tryd.func8.symm.trans hfn)).symm
  refine ⟨by kernel_rfl, fun j t ht => ?_⟩
  rw [Tryd.params8] at ht
  have hm : t ∈ [23, 23] := by simpa using Array.mem_of_getElem? ht
  have hall : ([23, 23].all fun u => !Tryd.prog.wantsStandIn u) = true := by kernel_rfl
  exact (show Tryd.prog.wantsStandIn t = false by simpa using List.all_eq_true.1 hall t hm)

/-- ████ THE CARD ████ -/
theorem card : Rows.OctetsXorsCardSaid :=
  Claim7.holds_tied_plain_at .later [] _ _ _ _ said (fun _ h => by cases h) (by kernel_rfl) (fun _ h => by cases h) octetsXors_row_tie rfl ⟨rfl, rfl⟩ (by kernel_rfl) rfl plain (by kernel_rfl)
end Go.Proofs.YtbagmmngepkaeaaDoor.octetsXors
