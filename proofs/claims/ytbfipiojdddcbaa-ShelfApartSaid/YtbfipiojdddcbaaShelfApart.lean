/-
  ShelfApart is true: what is asked of one disk says nothing of another.
  Conditions: none.
-/
import Derived.Test.YtbfipiojdddcbaaIm
namespace Go.Proofs.Ytbfipiojdddcbaa.Sh.shelfApart
open Go.ChangeShapes Go.WideShapes Go.ChangeAt Go.RowKit Go.Maps

/-- What holds of each shelf at the head of a round. -/
structure Half (S : Sf) (i : Nat) : Prop where
  len : S.disks.length = 4
  sec : S.sectors = 8
  small : ∀ k ∈ S.disks, k.waits.length ≤ i
  off : S.off = false
  left : S.left = 0
theorem step_waits (sec : Nat) (k : Dk) (kind n i : Int) (x : Nat) : (stepK sec k kind n i x).waits.length ≤ k.waits.length + 1 := by
  unfold stepK
  split
  · split
    · simp [Dk.write]
    · omega
  · split
    · split
      · simp [Dk.settle]
      · omega
    · split
      · show k.waits.length ≤ _; omega
      · split
        · split
          · show k.waits.length ≤ _; omega
          · omega
        · omega
section
variable {S T S' T' : Sf} {i : Nat}
theorem Half.next (h : Half S i) : Half S (i + 1) := ⟨h.len, h.sec, fun k hk => by have := h.small k hk; omega, h.off, h.left⟩
theorem Half.step (h : Half S i) {kind d n at_ : Int} {x : Nat} (s : Stepped S kind d n at_ x S') : Half S' (i + 1) := by
  refine ⟨?_, s.sec.trans h.sec, fun k hk => ?_, s.off, s.left⟩
  · rw [s.disks]; split
    · simpa using h.len
    · exact h.len
  · rw [s.disks] at hk
    split at hk
    · rename_i hd
      rcases List.mem_or_eq_of_mem_set hk with hk | rfl
      · have := h.small k hk; omega
      · have h1 := step_waits S.sectors (S.disks.getD d.toNat default) kind n at_ x
        have h2 := h.small _ (getD_mem (l := S.disks) (d := d.toNat) (by omega))
        omega
    · have := h.small k hk; omega
theorem Half.lt (h : Half S i) (hi : i ≤ 2000) : ∀ k ∈ S.disks, k.waits.length < 1099511627776 := fun k hk => by have := h.small k hk; omega
theorem Half.start : Half (newSf 4 8) 0 := by
  refine ⟨rfl, rfl, fun k hk => ?_, rfl, rfl⟩
  have : k ∈ List.replicate 4 (newDk 8) := hk
  rw [List.eq_of_mem_replicate this]
  simp [newDk]
theorem Half.crash (h : Half S i) (ks : List (List Int)) : Half (S.crash ks) i := by
  refine ⟨(crash_length S ks).trans h.len, h.sec, fun k hk => ?_, rfl, rfl⟩
  obtain ⟨_, _, _, e⟩ := crash_mem hk
  rw [e]; exact Nat.zero_le _
theorem Half.read (h : Half S i) : Half S.doRead i := ⟨h.len, h.sec, h.small, h.off, h.left⟩
theorem step_one (h : Half S i) {kind d n at_ : Int} {x : Nat} (s : Stepped S kind d n at_ x S') : S'.disks.getD 1 default = if d = 1 then stepK 8 (S.disks.getD 1 default) kind n at_ x else S.disks.getD 1 default := by
  rw [s.disks]
  by_cases hd : 0 ≤ d ∧ d < S.disks.length
  · rw [if_pos hd, getD_set _ _ _ _ (by omega), h.sec]
    by_cases e : d = 1
    · subst e; rw [if_pos (by rfl), if_pos rfl]; rfl
    · rw [if_neg (by omega), if_neg e]
  · rw [if_neg hd, if_neg (by have := h.len; omega)]
/-- What holds of the two. -/
structure Pair (S T : Sf) (i : Nat) : Prop where
  a : Half S i
  b : Half T i
  one : S.disks.getD 1 default = T.disks.getD 1 default
theorem Pair.next (h : Pair S T i) : Pair S T (i + 1) := ⟨h.a.next, h.b.next, h.one⟩
theorem Pair.first (h : Pair S T i) {kind d n at_ : Int} {x : Nat} (s : Stepped S kind d n at_ x S') (hd : d ≠ 1) : Pair S' T (i + 1) :=
  ⟨h.a.step s, h.b.next, by rw [step_one h.a s, if_neg hd]; exact h.one⟩
theorem Pair.both (h : Pair S T i) {kind n at_ : Int} {x : Nat} (s : Stepped S kind 1 n at_ x S') (t : Stepped T kind 1 n at_ x T') : Pair S' T' (i + 1) :=
  ⟨h.a.step s, h.b.step t, by rw [step_one h.a s, step_one h.b t, if_pos rfl, if_pos rfl, h.one]⟩
theorem Pair.crash (h : Pair S T i) (ks : List (List Int)) : Pair (S.crash ks) (T.crash ks) i :=
  ⟨h.a.crash ks, h.b.crash ks, by rw [crash_getD _ _ (by rw [h.a.len]; decide), crash_getD _ _ (by rw [h.b.len]; decide), h.one]⟩
theorem Pair.read (h : Pair S T i) : Pair S.doRead T.doRead i := ⟨h.a.read, h.b.read, h.one⟩
theorem Pair.why (h : Pair S T i) : Sh.why T 1 = Sh.why S 1 := by rw [why_on h.a.off, why_on h.b.off, h.one]
end
/-- The two in memory. -/
structure Two (w wr : World) (p q : Nat) (S T : Sf) (F G : Nat → Prop) : Prop where
  a : At w.heap.size w wr p S F
  b : At w.heap.size w wr q T G
  apart : ∀ b, F b → ¬ G b
section
variable {w wr w' : World} {p q : Nat} {S T S' : Sf} {F G : Nat → Prop}
theorem Two.turn (h : Two w wr p q S T F G) : Two w wr q p T S G F := ⟨h.b, h.a, fun b h1 h2 => h.apart b h2 h1⟩
theorem Two.grown (h : Two w wr p q S T F G) (hb : Below wr.heap.size wr w') : Two w w' p q S T F G := ⟨h.a.grown hb, h.b.grown hb, h.apart⟩
theorem Two.left (h : Two w wr p q S T F G) (hl : Left F wr p S' w') : ∃ F', Two w w' p q S' T F' G ∧ Moves F wr F' w' := by
  obtain ⟨F', a', hm⟩ := h.a.left hl
  refine ⟨F', ⟨a', ⟨h.b.shelf.only hm.1 (fun b hb hf => h.apart b hf hb), h.b.low, a'.bel, a'.size⟩, fun b h1 h2 => ?_⟩, hm⟩
  rcases hm.2 b h1 with e | e
  · exact h.apart b e h2
  · have := h.b.shelf.ltF h2
    omega
theorem Two.stays (h : Two w wr p q S T F G) (hs : Shelf w' p S' F) (ho : Only F wr w') : Two w w' p q S' T F G :=
  ⟨h.a.stays hs ho, ⟨h.b.shelf.only ho (fun b hb hf => h.apart b hf hb), h.b.low, (h.a.stays hs ho).bel, (h.a.stays hs ho).size⟩, h.apart⟩
end
def Bag (w wr : World) (p q : Nat) (k : Nat) : Prop := ∃ S T F G, Two w wr p q S T F G ∧ Pair S T k
theorem dead_in {wr : World} {p : Nat} {S : Sf} {F : Nat → Prop} (h : Shelf wr p S F) (hl : S.disks.length = 4) {b : Bool} (e : (S.disks.getD 1 default).dead = b) : Calls Try.prog 25 #[.pointer (some ⟨p, 0, none⟩), .int .i64 1] wr fun e w'' => e = .returned (.bool b) ∧ wr = w'' := by
  obtain ⟨D, gs, s⟩ := h
  subst e
  exact dead_yes s 1 (by rw [hl]; decide)

set_option maxRecDepth 100000 in
set_option maxHeartbeats 8000000 in
theorem walk {w : World} (A : Option Addr) (nn c : Nat) (f : Nat → OpV) (hl : OpsAre w A nn f) (B : Option Addr) (bn bc : Nat) (ks : List (List Int)) (hbn : bn ≤ 9223372036854775807) (hk : KeepIs w (Old w) B bn ks) :
    Calls Try.prog 6 #[.slice A nn c, .slice B bn bc] w fun e w' => e = .returned (.bool true) ∧ Below w.heap.size w w' := by
  have hnn := hl.1
  have HL := Lib.hid hl
  have HK := Lib.hid hk
  clear hl hk
  go_enter Try.func6, Try.ntmps6
  go_wp2_with fail
  refine (new_ok 4 8 w (by decide) (by decide) (by decide) (by decide)).mono ?_
  rintro e w1 ⟨p, F1, rfl, hS, hF, hb⟩
  have a1 : At w.heap.size w w1 p (newSf 4 8) F1 := ⟨hS, hF, hb, hb.size⟩
  clear hS hF hb
  go_wp2_with fail
  refine (new_ok 4 8 w1 (by decide) (by decide) (by decide) (by decide)).mono ?_
  rintro e w2 ⟨q, G1, rfl, hS, hG, hb⟩
  have t2 : Two w w2 p q (newSf 4 8) (newSf 4 8) F1 G1 := ⟨a1.grown hb, ⟨hS, fun b hb2 => Nat.le_trans a1.size (hG b hb2), a1.bel.trans (hb.mono a1.size), Nat.le_trans a1.size hb.size⟩, fun b h1 h2 => by
    have := a1.shelf.ltF h1
    have := hG b h2
    omega⟩
  clear a1 hS hG hb
  go_wp2_with fail
  refine (lives_true w2).mono ?_
  rintro e w3 ⟨rfl, hb⟩
  have B0 := Lib.hid (show Bag w w3 p q 0 from ⟨_, _, _, _, t2.grown hb, ⟨Half.start, Half.start, rfl⟩⟩)
  clear t2 hb
  go_wp2_with fail
  go_loopw [9] (fun s9 wr => ∃ k : Nat, k ≤ nn ∧ k ≤ 1000 ∧ s9 = .int .i64 k ∧ Hid (Bag w wr p q k)) (fun i _ => 1000 - (intOf i).toNat)
  case atStart => exact ⟨0, Nat.zero_le _, Nat.zero_le _, rfl, B0⟩
  case round =>
    obtain ⟨k, hk, hk2, rfl, hbag⟩ := hrel
    obtain ⟨S, T, F, G, two, hP⟩ := hbag.out
    clear hbag B0
    have HP := Lib.hid hP
    have HT := Lib.hid two
    by_cases hlt : k < nn ∧ k < 1000
    · obtain ⟨hlt, hlt2⟩ := hlt
      obtain ⟨b, off, rfl, hbl, hop⟩ := HL.out.2 (by omega)
      have hop := hop k hlt
      have d0 := (two.a.bel.cell (p := ⟨b, off + k * 6, none⟩) hbl).trans hop.c0
      have d1 := (two.a.bel.cell (p := ⟨b, off + k * 6 + 1, none⟩) hbl).trans hop.c1
      have d2 := (two.a.bel.cell (p := ⟨b, off + k * 6 + 2, none⟩) hbl).trans hop.c2
      have d3 := (two.a.bel.cell (p := ⟨b, off + k * 6 + 3, none⟩) hbl).trans hop.c3
      have d4 := (two.a.bel.cell (p := ⟨b, off + k * 6 + 4, none⟩) hbl).trans hop.c4
      have d5 := (two.a.bel.cell (p := ⟨b, off + k * 6 + 5, none⟩) hbl).trans hop.c5
      have hxx := hop.b4
      clear hop hP two
      generalize (f k).x = xx at *
      generalize (f k).kind = kind at *
      generalize (f k).d = dd at *
      generalize (f k).n = mm at *
      generalize (f k).at_ = ii at *
      generalize (f k).A = AA at *
      generalize (f k).m = ml at *
      generalize (f k).c = mc at *
      have b1 : Below wr.heap.size wr (wr.alloc (.cells #[.int .i64 kind, .int .i64 dd, .int .i64 mm, .int .i64 ii, .int .u8 (xx : Int), .slice AA ml mc] 33)) := (Below.refl _ _).alloc (Nat.le_refl _) _
      have r1 : (wr.alloc (.cells #[.int .i64 kind, .int .i64 dd, .int .i64 mm, .int .i64 ii, .int .u8 (xx : Int), .slice AA ml mc] 33)).heap[wr.heap.size]? = some (.cells #[.int .i64 kind, .int .i64 dd, .int .i64 mm, .int .i64 ii, .int .u8 (xx : Int), .slice AA ml mc] 33 (0, 0)) := heap_alloc_new _ _
      have s1 : (wr.alloc (.cells #[.int .i64 kind, .int .i64 dd, .int .i64 mm, .int .i64 ii, .int .u8 (xx : Int), .slice AA ml mc] 33)).heap.size = wr.heap.size + 1 := by simp
      have HB := Lib.hid b1
      have HR := Lib.hid r1
      have HZ := Lib.hid s1
      clear b1 r1 s1
      by_cases hk1 : kind < 1
      · go_wp2_with fail
        go_roundw
        case rel => exact ⟨k + 1, by omega, by omega, by go_num, Lib.hid ⟨_, _, _, _, HT.out.grown HB.out, HP.out.next⟩⟩
        case measure => simp [intOf]; omega
      · by_cases hk5 : 5 < kind
        · have hq1 : decide (kind < 1) = false := by simp; omega
          go_wp2_with fail
          go_roundw
          case rel => exact ⟨k + 1, by omega, by omega, by go_num, Lib.hid ⟨_, _, _, _, HT.out.grown HB.out, HP.out.next⟩⟩
          case measure => simp [intOf]; omega
        · have hq1 : decide (kind < 1) = false := by simp; omega
          have hq5 : decide (5 < kind) = false := by simp; omega
          have hkk : kind = 1 ∨ kind = 2 ∨ kind = 3 ∨ kind = 4 ∨ kind = 5 := by omega
          clear hk1 hk5
          have T1 := HT.out.grown HB.out
          have r1 := HR.out
          have z1 := HZ.out
          go_wp2_with fail
          refine (one_any _ p kind dd mm ii xx hxx AA ml mc T1.a.shelf (HP.out.a.lt (by omega)) HP.out.a.off HP.out.a.left hkk).mono ?_
          rintro e w2 ⟨rfl, S', hlf, hst⟩
          obtain ⟨F', T2, hm⟩ := T1.left hlf
          have r2 := (hm.1.block wr.heap.size (by rw [HZ.out]; exact Nat.lt_succ_self _) (fun hf => Nat.lt_irrefl _ (HT.out.a.shelf.ltF hf))).trans HR.out
          have k0 := cell_of_row _ _ 0 _ _ _ r2
          have k1 := cell_of_row _ _ 1 _ _ _ r2
          have k2 := cell_of_row _ _ 2 _ _ _ r2
          have k3 := cell_of_row _ _ 3 _ _ _ r2
          have k4 := cell_of_row _ _ 4 _ _ _ r2
          have k5 := cell_of_row _ _ 5 _ _ _ r2
          simp only [List.getElem?_toArray, List.getElem?_cons_zero, List.getElem?_cons_succ] at k0 k1 k2 k3 k4 k5
          clear hlf hm r1 z1 T1 d0 d1 d2 d3 d4 d5
          have HT2 := Lib.hid T2
          clear T2
          by_cases hd1 : dd = 1
          · subst hd1
            go_wp2_with fail
            refine (one_any _ q kind 1 mm ii xx hxx AA ml mc HT2.out.b.shelf (HP.out.b.lt (by omega)) HP.out.b.off HP.out.b.left hkk).mono ?_
            rintro e w4 ⟨rfl, T', hlf, hst2⟩
            obtain ⟨G', T4, _⟩ := HT2.out.turn.left hlf
            have B4 := Lib.hid (show Bag w w4 p q (k + 1) from ⟨_, _, _, _, T4.turn, HP.out.both hst hst2⟩)
            clear hlf T4 k0 k1 k2 k3 k4 k5 r2
            go_wp2_with fail
            go_roundw
            case rel => exact ⟨k + 1, by omega, by omega, by go_num, B4⟩
            case measure => simp [intOf]; omega
          · have hq1' : (dd == 1) = false := by simp; exact hd1
            have B4 := Lib.hid (show Bag w w2 p q (k + 1) from ⟨_, _, _, _, HT2.out, HP.out.first hst hd1⟩)
            go_wp2_with fail
            go_roundw
            case rel => exact ⟨k + 1, by omega, by omega, by go_num, B4⟩
            case measure => simp [intOf]; omega
    · by_cases hkn : k < nn
      · have hk3 : k = 1000 := by omega
        have hq0 : decide ((k : Int) < 1000) = false := by simp; omega
        clear hlt
        have DD := Lib.hid (show Pair S T k from hP)
        clear hP two
        go_wp2_with fail
        refine (crash_of rfl HT.out.a B bn bc HK.out hbn (HP.out.a.lt (by omega))).mono ?_
        rintro e w4 ⟨rfl, hlf⟩
        obtain ⟨F4, T4, _⟩ := HT.out.left hlf
        have HT4 := Lib.hid T4
        clear hlf T4
        go_wp2_with fail
        refine (crash_of rfl HT4.out.b B bn bc HK.out hbn (HP.out.b.lt (by omega))).mono ?_
        rintro e w5 ⟨rfl, hlf⟩
        obtain ⟨G5, T5, _⟩ := HT4.out.turn.left hlf
        have B5 := Lib.hid (show Bag w w5 p q k from ⟨_, _, _, _, T5.turn, HP.out.crash ks⟩)
        clear hlf T5 HT4
        go_wp2_with fail
        go_loopw [11] (fun s11 wr => ∃ n : Nat, n ≤ 8 ∧ s11 = .int .i64 n ∧ Hid (Bag w wr p q k)) (fun i _ => 8 - (intOf i).toNat)
        case atStart => exact ⟨0, Nat.zero_le _, rfl, B5⟩
        case round =>
          obtain ⟨n, hn, rfl, hbag⟩ := hrel
          clear B5 DD HP HT
          obtain ⟨S, T, F, G, two, hP⟩ := hbag.out
          clear hbag
          have HP := Lib.hid hP
          have HT := Lib.hid two
          clear two hP
          by_cases hlt : n < 8
          · by_cases hw : why S 1 = 0
            · have hv : (T.disks.getD 1 default).val n = (S.disks.getD 1 default).val n := by rw [HP.out.one]
              go_wp2_with fail
              refine (read_done _ p 1 n HT.out.a.shelf (by rw [HP.out.a.len]; decide) (by rw [HP.out.a.sec]; omega) hw).mono ?_
              rintro e w6 ⟨A1, c1, rfl, hB1, hs1, hO1⟩
              have T6 := HT.out.stays hs1 hO1
              have x1 := Lib.hid (beside_read HT.out.b.shelf hB1)
              have HT6 := Lib.hid T6
              clear T6 hB1 hs1 hO1
              go_wp2_with fail
              refine (read_done _ q 1 n HT6.out.b.shelf (by rw [HP.out.b.len]; decide) (by rw [HP.out.b.sec]; omega) (HP.out.why.trans hw)).mono ?_
              rintro e w7 ⟨A2, c2, rfl, hB2, hs2, hO2⟩
              rw [hv] at hB2
              have B7 := Lib.hid (show Bag w w7 p q k from ⟨_, _, _, _, (HT6.out.turn.stays hs2 hO2).turn, HP.out.read⟩)
              have y1 := (x1.out.only hO2).str c1
              have y2 := (beside_read HT6.out.b.shelf hB2).str c2
              clear hB2 hs2 hO2 x1 hv
              generalize strL ((S.disks.getD 1 default).val n) = sv at *
              have hse : (sv.toList == sv.toList) = true := by simp
              go_wp2_with fail
              go_roundw
              case rel => exact ⟨n + 1, by omega, by go_num, B7⟩
              case measure => simp [intOf]; omega
            · have hw2 := HP.out.why
              go_wp2_with fail
              refine (read_why _ p 1 n HT.out.a.shelf (by rw [HP.out.a.len]; decide) (by rw [HP.out.a.sec]; omega) hw).mono ?_
              rintro e w6 ⟨rfl, rfl⟩
              go_wp2_with fail
              refine (read_why _ q 1 n HT.out.b.shelf (by rw [HP.out.b.len]; decide) (by rw [HP.out.b.sec]; omega) (by rw [hw2]; exact hw)).mono ?_
              rintro e w7 ⟨rfl, rfl⟩
              rw [hw2]
              have B7 := Lib.hid (show Bag w wr p q k from ⟨_, _, _, _, HT.out, HP.out⟩)
              have y1 : (convert 36 9 (.slice none 0 0)).run Try.prog wr = .ok (.string (strL [])) wr := run_str (B := wr.heap.size) 0 (l := []) Reads.none_
              generalize strL [] = sv at *
              have hse : (sv.toList == sv.toList) = true := by simp
              generalize why S 1 = y at *
              go_wp2_with fail
              go_roundw
              case rel => exact ⟨n + 1, by omega, by go_num, B7⟩
              case measure => simp [intOf]; omega
          · have hn8 : n = 8 := by omega
            subst hn8
            have hd := HP.out.one
            have q1 := Lib.hid (dead_in HT.out.a.shelf HP.out.a.len rfl)
            have q2 := Lib.hid (dead_in HT.out.b.shelf HP.out.b.len (congrArg Dk.dead HP.out.one.symm))
            have q3 := HT.out.a.bel
            clear hd hlt
            generalize (S.disks.getD 1 default).dead = db at *
            go_wp2_with fail
            refine q1.out.mono ?_
            rintro e w6 ⟨rfl, rfl⟩
            go_wp2_with fail
            refine q2.out.mono ?_
            rintro e w7 ⟨rfl, rfl⟩
            go_wp2_with fail
            go_ret
            exact ⟨by simp, q3⟩
      · have hq0 : decide ((k : Int) < (nn : Int)) = false := by simp; omega
        clear hlt
        have DD := Lib.hid (show Pair S T k from hP)
        clear hP two
        go_wp2_with fail
        refine (crash_of rfl HT.out.a B bn bc HK.out hbn (HP.out.a.lt (by omega))).mono ?_
        rintro e w4 ⟨rfl, hlf⟩
        obtain ⟨F4, T4, _⟩ := HT.out.left hlf
        have HT4 := Lib.hid T4
        clear hlf T4
        go_wp2_with fail
        refine (crash_of rfl HT4.out.b B bn bc HK.out hbn (HP.out.b.lt (by omega))).mono ?_
        rintro e w5 ⟨rfl, hlf⟩
        obtain ⟨G5, T5, _⟩ := HT4.out.turn.left hlf
        have B5 := Lib.hid (show Bag w w5 p q k from ⟨_, _, _, _, T5.turn, HP.out.crash ks⟩)
        clear hlf T5 HT4
        go_wp2_with fail
        go_loopw [11] (fun s11 wr => ∃ n : Nat, n ≤ 8 ∧ s11 = .int .i64 n ∧ Hid (Bag w wr p q k)) (fun i _ => 8 - (intOf i).toNat)
        case atStart => exact ⟨0, Nat.zero_le _, rfl, B5⟩
        case round =>
          obtain ⟨n, hn, rfl, hbag⟩ := hrel
          clear B5 DD HP HT
          obtain ⟨S, T, F, G, two, hP⟩ := hbag.out
          clear hbag
          have HP := Lib.hid hP
          have HT := Lib.hid two
          clear two hP
          by_cases hlt : n < 8
          · by_cases hw : why S 1 = 0
            · have hv : (T.disks.getD 1 default).val n = (S.disks.getD 1 default).val n := by rw [HP.out.one]
              go_wp2_with fail
              refine (read_done _ p 1 n HT.out.a.shelf (by rw [HP.out.a.len]; decide) (by rw [HP.out.a.sec]; omega) hw).mono ?_
              rintro e w6 ⟨A1, c1, rfl, hB1, hs1, hO1⟩
              have T6 := HT.out.stays hs1 hO1
              have x1 := Lib.hid (beside_read HT.out.b.shelf hB1)
              have HT6 := Lib.hid T6
              clear T6 hB1 hs1 hO1
              go_wp2_with fail
              refine (read_done _ q 1 n HT6.out.b.shelf (by rw [HP.out.b.len]; decide) (by rw [HP.out.b.sec]; omega) (HP.out.why.trans hw)).mono ?_
              rintro e w7 ⟨A2, c2, rfl, hB2, hs2, hO2⟩
              rw [hv] at hB2
              have B7 := Lib.hid (show Bag w w7 p q k from ⟨_, _, _, _, (HT6.out.turn.stays hs2 hO2).turn, HP.out.read⟩)
              have y1 := (x1.out.only hO2).str c1
              have y2 := (beside_read HT6.out.b.shelf hB2).str c2
              clear hB2 hs2 hO2 x1 hv
              generalize strL ((S.disks.getD 1 default).val n) = sv at *
              have hse : (sv.toList == sv.toList) = true := by simp
              go_wp2_with fail
              go_roundw
              case rel => exact ⟨n + 1, by omega, by go_num, B7⟩
              case measure => simp [intOf]; omega
            · have hw2 := HP.out.why
              go_wp2_with fail
              refine (read_why _ p 1 n HT.out.a.shelf (by rw [HP.out.a.len]; decide) (by rw [HP.out.a.sec]; omega) hw).mono ?_
              rintro e w6 ⟨rfl, rfl⟩
              go_wp2_with fail
              refine (read_why _ q 1 n HT.out.b.shelf (by rw [HP.out.b.len]; decide) (by rw [HP.out.b.sec]; omega) (by rw [hw2]; exact hw)).mono ?_
              rintro e w7 ⟨rfl, rfl⟩
              rw [hw2]
              have B7 := Lib.hid (show Bag w wr p q k from ⟨_, _, _, _, HT.out, HP.out⟩)
              have y1 : (convert 36 9 (.slice none 0 0)).run Try.prog wr = .ok (.string (strL [])) wr := run_str (B := wr.heap.size) 0 (l := []) Reads.none_
              generalize strL [] = sv at *
              have hse : (sv.toList == sv.toList) = true := by simp
              generalize why S 1 = y at *
              go_wp2_with fail
              go_roundw
              case rel => exact ⟨n + 1, by omega, by go_num, B7⟩
              case measure => simp [intOf]; omega
          · have hn8 : n = 8 := by omega
            subst hn8
            have hd := HP.out.one
            have q1 := Lib.hid (dead_in HT.out.a.shelf HP.out.a.len rfl)
            have q2 := Lib.hid (dead_in HT.out.b.shelf HP.out.b.len (congrArg Dk.dead HP.out.one.symm))
            have q3 := HT.out.a.bel
            clear hd hlt
            generalize (S.disks.getD 1 default).dead = db at *
            go_wp2_with fail
            refine q1.out.mono ?_
            rintro e w6 ⟨rfl, rfl⟩
            go_wp2_with fail
            refine q2.out.mono ?_
            rintro e w7 ⟨rfl, rfl⟩
            go_wp2_with fail
            go_ret
            exact ⟨by simp, q3⟩
set_option maxRecDepth 100000 in
/-- WHAT THE WALK GIVES, FOR EVERY ARGUMENT AND EVERY WORLD THAT HOLDS THE TABLES. -/
theorem contract (H : Type) (enc : TypeId × Value → H) (W : World) (base : Nat) (args : Array Value) (ds gs : List (DataW H)) (before : List MemPlace)
    (hval : ∀ (j : Nat) t v, Try.f6.params[j]? = some t → args[j]? = some v → Value.okWide Try.prog W .any base t v)
    (hW : DataW.Whole enc Try.prog Try.f6.params.toList Rows.shelfApartSpec.vars false W args.toList ds gs before)
    (hsz : (DataW.weightsEach Try.prog (Try.f6.params.toList ++ (OpenSpec.ofChange Rows.shelfApartSpec).bare.plain.varTypes Try.prog) (ds ++ gs)).all (· ≤ reachBytes) = true) (_hL : laidMetH Try.prog laidBoth W) :
    Calls Try.prog 6 args W fun e W' => ∃ v, e = .returned v ∧ Rows.shelfApartSpec.post enc Try.prog Try.f6 false true false false W args v W' := by
  have hW' := hW
  obtain ⟨p, q, hA0, hV, rfl, hfz, hnd⟩ := hW
  have hA : DataW.TrodAll enc Try.prog W 0 (fun _ => true) true Try.f6.params.toList args.toList ds p := hA0
  have hsz2 : (DataW.weightsEach Try.prog (Try.f6.params.toList ++ []) (ds ++ gs)).all (· ≤ reachBytes) = true := hsz
  rw [Try.params6] at hA hval hsz2
  obtain ⟨v0, vs0, d0, ds0, p0, q0, hargs, rfl, rfl, h0, r0⟩ := trodAll_cons hA
  obtain ⟨v1, vs1, d1, ds1, p1, q1, rfl, rfl, rfl, h1, r1⟩ := trodAll_cons r0
  obtain ⟨rfl, rfl, rfl⟩ := trodAll_nil r1
  obtain rfl : args = #[v0, v1] := by cases args; simp_all
  obtain ⟨rfl, rfl⟩ := trodVars_none hV
  obtain ⟨A0, n0, c0, rfl⟩ := okWide_slice Try.underlying22 (hval 0 22 v0 rfl rfl)
  have k0 := h0
  have lt0 : ∀ x ∈ p0, x.block < W.heap.size := by obtain ⟨m, hm⟩ := k0; exact DataW.trod_lt m _ _ _ hm
  obtain ⟨f0, hl0⟩ : ∃ f, OpsAre W A0 n0 f := by obtain ⟨fuel, hf⟩ := h0; exact ops_in (by simpa [Value.cells] using hf)
  obtain ⟨A1, n1, c1, rfl⟩ := okWide_slice Try.underlying31 (hval 1 31 v1 rfl rfl)
  have k1 := h1
  have lt1 : ∀ x ∈ p1, x.block < W.heap.size := by obtain ⟨m, hm⟩ := k1; exact DataW.trod_lt m _ _ _ hm
  obtain ⟨ks1, nb1, hk1⟩ : ∃ ks : List (List Int), n1 ≤ 9223372036854775807 ∧ KeepIs W (Old W) A1 n1 ks := by obtain ⟨fuel, hf⟩ := h1; exact keep_in (by simpa [Value.cells] using hf)
  refine (walk A0 n0 c0 f0 hl0 A1 n1 c1 ks1 nb1 hk1).mono fun e W' ⟨he, bel⟩ => ?_
  subst he
  exact ⟨_, rfl, _, _, _, [], _, [], hW', trodAll_mk1 (shut_bool Try.underlying4 _), (trodAll_cons_mk (Below.trod laidOut (by kernel_rfl) (of_decide_eq_true (by kernel_rfl)) k0 bel lt0) (trodAll_cons_mk (Below.trod laidOut (by kernel_rfl) (of_decide_eq_true (by kernel_rfl)) k1 bel lt1) trodAll_mk0)), rfl, bel.frame _, fun h => by cases h⟩

theorem laid_met (os : Os) : laidMetH Try.prog laidBoth ((laidWorld os).forCall (fun _ _ => 0) ⟨#[], #[.slice none 0 0, .slice none 0 0], []⟩).memory :=
  laidMetH_of_parts3 (fuel := 8) (laidMet_of_run' 8 (by kernel_rfl) (by kernel_rfl)) (by kernel_rfl) (by kernel_rfl)
theorem reads (os : Os) {H : Type} (enc : TypeId × Value → H) : ∃ places, DataW.whole enc Try.prog ((laidWorld os).forCall (fun _ _ => 0) ⟨#[], #[.slice none 0 0, .slice none 0 0], []⟩).memory Try.f6.params.toList Rows.shelfApartSpec.vars false (#[.slice none 0 0, .slice none 0 0] : Array Value).toList 8 = some ([.nil, .nil], [], places) :=
  ⟨[], by kernel_rfl⟩
set_option maxRecDepth 100000 in
theorem lifted (os : Os) (started : os.Started) (H : Type) (enc : TypeId × Value → H) (F : Stop.Interp) :
    ReturnsInHanded {} Try.checked os 6 .any ((OpenSpec.ofChange Rows.shelfApartSpec).preRow enc Try.prog Try.f6 Rows.shelfApartRow.domain false Rows.shelfApartRow.laid) (((OpenSpec.ofChange Rows.shelfApartSpec).at F).post enc Try.prog Try.f6 false true false false) := by
  obtain ⟨places, hx⟩ := reads os enc
  refine returnsInHanded_of_row (C := Try.checked) (s := (OpenSpec.ofChange Rows.shelfApartSpec)) own started (by kernel_rfl) Try.func6
    (witness_row_at (enc := enc) (C := Try.checked) false (laidWorld os) #[.slice none 0 0, .slice none 0 0] rfl (by kernel_rfl) (by kernel_rfl) (by kernel_rfl)
      (OpenSpec.preRow_of_cond 8 hx (by kernel_rfl) (fun k hk => by cases hk) (by kernel_rfl) (laid_met os))) ?_
  intro W base args ds gs before hval hW _ hcond hsz hL _ _
  exact contract H enc W base args ds gs before hval hW hsz hL
theorem said : Rows.ShelfApartSaid :=
  OpenClaim.holds_of_cond 6 Try.f6 rfl rfl rfl rfl rfl rfl rfl ⟨rfl, rfl, rfl, rfl, rfl⟩ rfl rfl rfl rfl rfl (by kernel_rfl) Try.func6 (by kernel_rfl)
    (of_decide_eq_true (by kernel_rfl)) (by unfold Func.isWrapper; first | (rw [if_pos (by decide +kernel)]; kernel_rfl) | (rw [if_neg (by decide +kernel)]; exact ⟨rfl, rfl⟩))
    (fun os started H enc _ F => by rw [OpenClaim.pre_eq_preRow]; exact lifted os started H enc F)
end Go.Proofs.Ytbfipiojdddcbaa.Sh.shelfApart
