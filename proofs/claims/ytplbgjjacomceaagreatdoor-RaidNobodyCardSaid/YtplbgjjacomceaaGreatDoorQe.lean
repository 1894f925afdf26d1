/-
  a shelf among other memory.
  Conditions: each theorem's own.
-/
import Derived.Test.YtplbgjjacomceaaGreatDoorQd
import Derived.Deep.RegionHeld3
namespace Go.Proofs.YtplbgjjacomceaaGreatDoor.Sh
open Go.RowKit Go.Maps

/-- A shelf that the call made: all of it lies from block B on, and below B the world is as it was. -/
structure At (B : Nat) (W w : World) (p : Nat) (S : Sf) (F : Nat → Prop) : Prop where
  shelf : Shelf w p S F
  low : ∀ b, F b → B ≤ b
  bel : Below B W w
  size : B ≤ w.heap.size
/-- A slice of 128 bytes that is no part of the shelf. -/
def Beside (w : World) (F : Nat → Prop) (A : Option Addr) (l : Bs) : Prop := Reads w w.heap.size A 128 (bts l) ∧ ∀ a, A = some a → ¬ F a.block
section
variable {B : Nat} {W w w' : World} {p : Nat} {S S' : Sf} {F F' : Nat → Prop}
theorem At.left (h : At B W w p S F) (hl : Left F w p S' w') : ∃ F', At B W w' p S' F' ∧ Moves F w F' w' := by
  obtain ⟨F', hs, hm⟩ := hl
  exact ⟨F', ⟨hs, fun b hb => (hm.2 b hb).elim (h.low b) (fun e => Nat.le_trans h.size e), h.bel.trans (hm.1.below h.low h.size), Nat.le_trans h.size hm.1.size⟩, hm⟩
theorem At.grown (h : At B W w p S F) (hb : Below w.heap.size w w') : At B W w' p S F :=
  ⟨h.shelf.only (G := fun _ => False) ⟨hb.os, hb.tape, hb.output, hb.size, fun k hk _ => hb.block k hk⟩ (fun _ _ e => e), h.low, h.bel.trans (hb.mono h.size), Nat.le_trans h.size hb.size⟩
theorem At.stays (h : At B W w p S F) (hs : Shelf w' p S' F) (ho : Only F w w') : At B W w' p S' F :=
  ⟨hs, h.low, h.bel.trans (ho.below h.low h.size), Nat.le_trans h.size ho.size⟩
theorem Beside.moves {A : Option Addr} {l : Bs} (h : Beside w F A l) (hm : Moves F w F' w') : Beside w' F' A l := by
  refine ⟨⟨h.1.1, fun h0 => ?_⟩, fun a ha hF => ?_⟩
  · obtain ⟨ad, e, hlt, hc⟩ := h.1.2 h0
    refine ⟨ad, e, Nat.lt_of_lt_of_le hlt hm.1.size, fun j u hu => ?_⟩
    rw [hm.1.cell (p := ad.add j) (by rw [block_of_add]; exact hlt) (by rw [block_of_add]; exact h.2 ad e)]
    exact hc j u hu
  · rcases hm.2 _ hF with e | e
    · exact h.2 a ha e
    · obtain ⟨ad, e2, hlt, _⟩ := h.1.2 (by decide)
      rw [ha] at e2
      injection e2 with e2
      subst e2
      omega
theorem Beside.grown {A : Option Addr} {l : Bs} (h : Beside w F A l) (hb : Below w.heap.size w w') : Beside w' F A l :=
  ⟨(h.1.below hb).more hb.size, h.2⟩
theorem Beside.only {A : Option Addr} {l : Bs} (h : Beside w F A l) (ho : Only F w w') : Beside w' F A l := h.moves ⟨ho, fun _ h => .inl h⟩
/-- A Sector, made beside a shelf. -/
theorem beside_sector {b : Nat} (h : Shelf w p S F) (ho : w'.ownsRow w.heap.size 5 1 (.slice (some ⟨w.heap.size, 0, none⟩) 128 128) 128 (bts (secOf b))) : Beside w' F (some ⟨w.heap.size, 0, none⟩) (secOf b) :=
  ⟨Reads.of_own ho, fun a ha hF => by
    injection ha with ha
    subst ha
    have := h.ltF hF
    exact Nat.lt_irrefl _ this⟩
/-- What a Read has told, beside the shelf. -/
theorem beside_read {A : Option Addr} {l : Bs} (h : Shelf w p S F) (hb : Bytes w w' A l) : Beside w' F A l :=
  ⟨hb.1, fun a ha hF => by
    have := (hb.2 a ha).1
    have := h.ltF hF
    omega⟩
theorem Beside.str {A : Option Addr} {l : Bs} (h : Beside w F A l) (c : Nat) : (convert 45 9 (.slice A 128 c)).run Tryz.prog w = .ok (.string (strL l)) w := run_str c h.1
end
theorem below_drew {w w1 w2 : World} (h : Below w.drew.heap.size w.drew w1) (k : Below w1.heap.size w1 w2) : Below w.heap.size w w2 := by
  have e : Below w.heap.size w w1 := ⟨h.os, h.tape, h.output, h.size, h.block⟩
  exact e.trans (k.mono h.size)
/-- A list of one list of one number, in two new blocks. -/
theorem keep_lit (w : World) (x : Int) {F : Nat → Prop} (hF : ∀ b, F b → b < w.heap.size) :
    ∃ G : Nat → Prop, KeepIs ((w.alloc (.cells #[.int .i64 x] 3)).alloc (.cells #[.slice (some ⟨w.heap.size, 0, none⟩) 1 1] 24)) G (some ⟨w.heap.size + 1, 0, none⟩) 1 [[x]] ∧ ∀ b, G b → b < ((w.alloc (.cells #[.int .i64 x] 3)).alloc (.cells #[.slice (some ⟨w.heap.size, 0, none⟩) 1 1] 24)).heap.size ∧ ¬ F b := by
  have e : ∀ b j, (⟨b, 0, none⟩ : Addr).add j = ⟨b, j, none⟩ := fun b j => by unfold Addr.add; split <;> simp_all
  refine ⟨fun b => b = w.heap.size ∨ b = w.heap.size + 1, ⟨rfl, fun _ => ⟨_, rfl, .inr rfl, fun j hj => ?_⟩⟩, ?_⟩
  · obtain rfl : j = 0 := by omega
    refine ⟨some ⟨w.heap.size, 0, none⟩, 1, 1, ?_, by decide, ⟨rfl, fun _ => ⟨⟨w.heap.size, 0, none⟩, rfl, by simp; omega, fun j u hu => ?_⟩⟩, fun _ a ha => ?_⟩
    · rw [e, cell_of_row _ _ 0 _ _ _ (heap_alloc2_new w _ _)]; rfl
    · rw [e]
      match j, hu with
      | 0, hu =>
        rw [cell_of_row _ _ 0 _ _ _ (heap_alloc2_old w _ _)]
        exact hu
    · injection ha with ha; subst ha; exact .inl rfl
  · rintro b (rfl | rfl)
    · exact ⟨by simp; omega, fun h => Nat.lt_irrefl _ (hF _ h)⟩
    · exact ⟨by simp, fun h => by have := hF _ h; omega⟩
theorem beside_eq {w : World} {F : Nat → Prop} {A : Option Addr} {l l' : Bs} (h : Beside w F A l) (e : l = l') : Beside w F A l' := e ▸ h
theorem sector_1 (w : World) : Calls Tryz.prog 26 #[.int .u8 1] w fun e w' => e = .returned (.slice (some ⟨w.heap.size, 0, none⟩) 128 128) ∧
      w'.ownsRow w.heap.size 5 1 (.slice (some ⟨w.heap.size, 0, none⟩) 128 128) 128 (bts (secOf 1)) ∧ Below w.heap.size w w' := sector_any w 1 (by decide)
theorem sector_3 (w : World) : Calls Tryz.prog 26 #[.int .u8 3] w fun e w' => e = .returned (.slice (some ⟨w.heap.size, 0, none⟩) 128 128) ∧
      w'.ownsRow w.heap.size 5 1 (.slice (some ⟨w.heap.size, 0, none⟩) 128 128) 128 (bts (secOf 3)) ∧ Below w.heap.size w w' := sector_any w 3 (by decide)
theorem count_is {w : World} {p : Nat} {S : Sf} {F : Nat → Prop} (h : Shelf w p S F) {n : Int} (e : S.count = n) : Calls Tryz.prog 25 #[.pointer (some ⟨p, 0, none⟩)] w fun e w' => e = .returned (.int .i64 n) ∧ w = w' := by
  obtain ⟨D, gs, h⟩ := h
  subst e
  exact count_any h
theorem At.countIs {B : Nat} {W w : World} {p : Nat} {S : Sf} {F : Nat → Prop} (h : At B W w p S F) {n : Int} (e : S.count = n) (w' : World) (hb : Below w.heap.size w w') : Calls Tryz.prog 25 #[.pointer (some ⟨p, 0, none⟩)] w' fun e w'' => e = .returned (.int .i64 n) ∧ w' = w'' := count_is (h.grown hb).shelf e
/-- What the statements' last test asks: both texts may be converted, and nothing was lost. -/
theorem conv_on {w w' W : World} {F : Nat → Prop} {A : Option Addr} {c : Nat} {l : Bs} (h : Beside w F A l) (hb : Below w.heap.size w W) (hk : Below W.heap.size W w') : (convert 45 9 (.slice A 128 c)).run Tryz.prog w' = .ok (.string (strL l)) w' :=
  (h.grown (hb.trans (hk.mono hb.size))).str c
/-- What lay there of old. -/
def Old (W : World) (b : Nat) : Prop := b < W.heap.size
end Go.Proofs.YtplbgjjacomceaaGreatDoor.Sh
namespace Go.Proofs.YtplbgjjacomceaaGreatDoor.Sh
open Go.RowKit Go.Maps

/-- S may be narrowed on the way. -/
theorem wpAnyH_mono {P : Program} {md : Region.Mode} {ops : Array Oper} {Q : Exit → Act → World → Prop} {S S' : World → Prop} (hS : ∀ w, S' w → S w) : ∀ (fuel : Nat) (listed : Array Bool) (a : Act) (w : World), wpAnyH P md ops Q S' fuel listed a w → wpAnyH P md ops Q S fuel listed a w
  | 0, _, _, _, h => h
  | fuel + 1, _, _, _, h => ⟨h.1, fun i hi => wpOp_mono (fun a' w' h' => ⟨hS _ h'.1, wpAnyH_mono hS fuel _ a' w' h'.2⟩) (h.2 i hi)⟩
theorem below_on {w w1 w2 : World} (h : Below w.heap.size w w1) (k : Below w1.heap.size w1 w2) : Below w.heap.size w w2 := h.trans (k.mono h.size)
theorem conv_grown {w : World} {F : Nat → Prop} {A : Option Addr} {c : Nat} {l : Bs} {s : ByteArray} (h : Beside w F A l) (hs : strL l = s) (W : World) (hb : Below w.heap.size w W) : (convert 45 9 (.slice A 128 c)).run Tryz.prog W = .ok (.string s) W := by
  rw [← hs]
  exact (h.grown hb).str c
theorem conv_own {w : World} {B q : Nat} {l : Bs} {s : ByteArray} (h : w.ownsRow B 5 1 (.slice (some ⟨q, 0, none⟩) 128 128) 128 (bts l)) (hs : strL l = s) (W : World) (hb : Below w.heap.size w W) : (convert 45 9 (.slice (some ⟨q, 0, none⟩) 128 128)).run Tryz.prog W = .ok (.string s) W := by
  rw [← hs]
  exact run_str 128 (((Reads.of_own h).below hb).more hb.size)
end Go.Proofs.YtplbgjjacomceaaGreatDoor.Sh
namespace Go.Proofs.YtplbgjjacomceaaGreatDoor.Sh
open Go.RowKit Go.Maps

def Wrote (S : Sf) (d n : Int) (b : Bs) (y : Int) (S' : Sf) : Prop :=
  (S' = S ∧ y ≠ 0 ∧ (y = 1 ∨ S.off = true ∨ ∃ d' : Nat, d = d' ∧ d' < S.disks.length ∧ (S.disks.getD d' default).dead = true)) ∨ ∃ d' n' : Nat, d = d' ∧ n = n' ∧ d' < S.disks.length ∧ n' < S.sectors ∧ why S d' = 0 ∧ y = 0 ∧ S' = S.doWrite d' n' b
def Flushed (S : Sf) (d : Int) (y : Int) (S' : Sf) : Prop :=
  (S' = S ∧ y ≠ 0) ∨ ∃ d' : Nat, d = d' ∧ d' < S.disks.length ∧ why S d' = 0 ∧ y = 0 ∧ S' = S.doFlush d'
theorem getD_mem {l : List Dk} {d : Nat} (h : d < l.length) : l.getD d default ∈ l := by simp [List.getD, h]
section
variable {w : World} {p : Nat} {S : Sf} {F : Nat → Prop}
theorem left_here (h : Shelf w p S F) : Left F w p S w := ⟨F, h, Moves.refl _ _⟩
theorem why_cases (S : Sf) (d : Nat) : why S d = 0 ∨ (why S d ≠ 0 ∧ (S.off = true ∨ (S.disks.getD d default).dead = true)) := by
  unfold why
  by_cases h1 : S.off = true
  · rw [if_pos h1]; exact .inr ⟨by decide, .inl h1⟩
  · rw [if_neg h1]
    by_cases h2 : (S.disks.getD d default).dead = true
    · rw [if_pos h2]; exact .inr ⟨by decide, .inr h2⟩
    · rw [if_neg h2]; exact .inl rfl
theorem write_of (w : World) (p : Nat) (d n : Int) (b : Bs) {A : Option Addr} {c : Nat} (h : Shelf w p S F) (hL : ∀ k ∈ S.disks, k.waits.length < 1099511627776) (hb : Sec b) (hr : Reads w w.heap.size A 128 (bts b)) (hA : ∀ a, A = some a → ¬ F a.block) :
    Calls Tryz.prog 36 #[.pointer (some ⟨p, 0, none⟩), .int .i64 d, .int .i64 n, .slice A 128 c] w fun e w' => ∃ y S', e = .returned (.int .i64 y) ∧ Wrote S d n b y S' ∧ Left F w p S' w' := by
  by_cases hs : hasS S d n
  · obtain ⟨h1, h2, h3, h4⟩ := hs
    obtain ⟨d, rfl⟩ : ∃ m : Nat, d = (m : Int) := ⟨d.toNat, by omega⟩
    obtain ⟨n, rfl⟩ : ∃ m : Nat, n = (m : Int) := ⟨n.toNat, by omega⟩
    rcases why_cases S d with hw | ⟨hw, ho⟩
    · refine (write_done w p d n b h (by omega) (by omega) hw (hL _ (getD_mem (by omega))) hb hr hA).mono ?_
      rintro e w' ⟨rfl, hl⟩
      exact ⟨0, _, rfl, .inr ⟨d, n, rfl, rfl, by omega, by omega, hw, rfl, rfl⟩, hl⟩
    · refine (write_why w p d n h (by omega) (by omega) hw).mono ?_
      rintro e w' ⟨rfl, rfl⟩
      exact ⟨_, S, rfl, .inl ⟨rfl, hw, .inr (ho.elim .inl fun h => .inr ⟨d, rfl, by omega, h⟩)⟩, left_here h⟩
  · refine (write_refused w p d n h (.inl hs)).mono ?_
    rintro e w' ⟨rfl, rfl⟩
    exact ⟨1, S, rfl, .inl ⟨rfl, by decide, .inl rfl⟩, left_here h⟩
theorem flush_of (w : World) (p : Nat) (d : Int) (h : Shelf w p S F) (hL : ∀ k ∈ S.disks, k.waits.length < 1099511627776) :
    Calls Tryz.prog 80 #[.pointer (some ⟨p, 0, none⟩), .int .i64 d] w fun e w' => ∃ y S', e = .returned (.int .i64 y) ∧ Flushed S d y S' ∧ Left F w p S' w' := by
  by_cases hs : hasD S d
  · obtain ⟨h1, h2⟩ := hs
    obtain ⟨d, rfl⟩ : ∃ m : Nat, d = (m : Int) := ⟨d.toNat, by omega⟩
    rcases why_cases S d with hw | ⟨hw, ho⟩
    · refine (flush_done w p d h (by omega) hw (hL _ (getD_mem (by omega)))).mono ?_
      rintro e w' ⟨rfl, hl⟩
      exact ⟨0, _, rfl, .inr ⟨d, rfl, by omega, hw, rfl, rfl⟩, hl⟩
    · refine (flush_why w p d h (by omega) hw).mono ?_
      rintro e w' ⟨rfl, rfl⟩
      exact ⟨_, S, rfl, .inl ⟨rfl, hw⟩, left_here h⟩
  · refine (flush_refused w p d h hs).mono ?_
    rintro e w' ⟨rfl, rfl⟩
    exact ⟨1, S, rfl, .inl ⟨rfl, by decide⟩, left_here h⟩
theorem keep_below {w w' : World} {A : Option Addr} {n : Nat} {ks : List (List Int)} (h : KeepIs w (Old w) A n ks) (hb : Below w.heap.size w w') : KeepIs w' (Old w) A n ks := by
  refine ⟨h.1, fun h0 => ?_⟩
  obtain ⟨ad, e, h1, h2⟩ := h.2 h0
  refine ⟨ad, e, h1, fun j hj => ?_⟩
  obtain ⟨A', m, c, h3, h4, h5, h6⟩ := h2 j hj
  exact ⟨A', m, c, by rw [← h3]; exact hb.cell (by rw [block_of_add]; exact h1), h4, (h5.below hb).more hb.size, h6⟩
theorem crash_of {W : World} {B : Nat} (hBW : B = W.heap.size) (a : At B W w p S F) (A : Option Addr) (n c : Nat) {ks : List (List Int)} (hk : KeepIs W (Old W) A n ks) (hn : n ≤ 9223372036854775807) (hL : ∀ k ∈ S.disks, k.waits.length < 1099511627776) :
    Calls Tryz.prog 47 #[.pointer (some ⟨p, 0, none⟩), .slice A n c] w fun e w' => e = .returned (.tuple #[]) ∧ Left F w p (S.crash ks) w' := by
  subst hBW
  exact crash_any w p (Old W) A n c ks a.shelf (keep_below hk a.bel) (fun b hb => ⟨Nat.lt_of_lt_of_le hb a.size, fun hF => Nat.lt_irrefl _ (Nat.lt_of_lt_of_le hb (a.low b hF))⟩) hn hL
end
theorem crash_getD (S : Sf) (ks : List (List Int)) {d : Nat} (h : d < S.disks.length) : (S.crash ks).disks.getD d default = (S.disks.getD d default).settle (keptOf ks d) := by
  show (S.crashTo ks S.disks.length).disks.getD d default = _
  simp [Sf.crashTo, List.getD, h]
theorem crash_length (S : Sf) (ks : List (List Int)) : (S.crash ks).disks.length = S.disks.length := crashTo_length _ _ _
theorem crash_mem {S : Sf} {ks : List (List Int)} {k : Dk} (h : k ∈ (S.crash ks).disks) : ∃ k0 ∈ S.disks, k.dead = k0.dead ∧ k.waits = [] := by
  have h : k ∈ (S.crashTo ks S.disks.length).disks := h
  unfold Sf.crashTo at h
  obtain ⟨d, hd, rfl⟩ := List.mem_map.1 h
  have hd := List.mem_range.1 hd
  rw [if_pos hd]
  exact ⟨_, getD_mem hd, rfl, rfl⟩
end Go.Proofs.YtplbgjjacomceaaGreatDoor.Sh
namespace Go.Proofs.YtplbgjjacomceaaGreatDoor.Sh
open Go.RowKit Go.Maps

/-- A sector of which a byte was turned. -/
def turnB (b : Bs) (i x : Nat) : Bs := b.set i (b.getD i 0 ^^^ x)
def Dk.turn (k : Dk) (n i x : Nat) : Dk := { k with sure := k.sure.set n (turnB (k.sure.getD n []) i x) }
def Sf.doCorrupt (S : Sf) (d n i x : Nat) : Sf := { S with disks := S.disks.set d ((S.disks.getD d default).turn n i x) }
theorem turnB_sec {b : Bs} (h : Sec b) {i x : Nat} (hx : x < 256) : Sec (turnB b i x) := by
  refine ⟨by unfold turnB; rw [List.length_set]; exact h.1, fun y hy => ?_⟩
  rcases List.mem_or_eq_of_mem_set hy with hy | rfl
  · exact h.2 y hy
  · exact Nat.xor_lt_two_pow (n := 8) (h.2.get i) hx
theorem corrupt_refused (w : World) (p : Nat) (d n i : Int) (x : Nat) {S : Sf} {F : Nat → Prop} (h : Shelf w p S F) (hno : ¬ hasS S d n ∨ i < 0 ∨ 127 < i) :
    Calls Tryz.prog 101 #[.pointer (some ⟨p, 0, none⟩), .int .i64 d, .int .i64 n, .int .i64 i, .int .u8 x] w fun e w' => e = .returned (.int .i64 1) ∧ w = w' := by
  obtain ⟨D, gs, h⟩ := h
  by_cases hs : hasS S d n
  · have hs2 := hs
    obtain ⟨a1, a2, a3, a4⟩ := hs
    obtain ⟨d, rfl⟩ : ∃ m : Nat, d = (m : Int) := ⟨d.toNat, by omega⟩
    obtain ⟨n, rfl⟩ : ∃ m : Nat, n = (m : Int) := ⟨n.toNat, by omega⟩
    have hc := Lib.hid (hasSector_yes h d n (by omega) (by omega))
    have hi : i < 0 ∨ (0 ≤ i ∧ 128 ≤ i) := by
      rcases hno with e | e
      · exact absurd hs2 e
      · omega
    clear h hno hs2 a1 a2 a3 a4
    rcases hi with hi | ⟨hi0, hi⟩
    · go_enter Tryz.func101, Tryz.ntmps101
      go_wp2_with (go_at_call 82; refine hc.out.mono ?_; rintro e w' ⟨rfl, rfl⟩)
      go_ret
      exact ⟨rfl, rfl⟩
    · have hq : decide (i < 0) = false := by simpa using hi0
      go_enter Tryz.func101, Tryz.ntmps101
      go_wp2_with (go_at_call 82; refine hc.out.mono ?_; rintro e w' ⟨rfl, rfl⟩)
      go_ret
      exact ⟨rfl, rfl⟩
  · have hc := Lib.hid (hasSector_no h d n hs)
    clear h hno hs
    go_enter Tryz.func101, Tryz.ntmps101
    go_wp2_with (go_at_call 82; refine hc.out.mono ?_; rintro e w' ⟨rfl, rfl⟩)
    go_ret
    exact ⟨rfl, rfl⟩
set_option maxRecDepth 20000 in
theorem corrupt_waits (w : World) (p d n i : Nat) (x : Nat) {S : Sf} {F : Nat → Prop} (h : Shelf w p S F) (hd : d < S.disks.length) (hn : n < S.sectors) (hi : i < 128) (hw : (lastOf (S.disks.getD d default).waits n).isSome = true) :
    Calls Tryz.prog 101 #[.pointer (some ⟨p, 0, none⟩), .int .i64 d, .int .i64 n, .int .i64 i, .int .u8 x] w fun e w' => e = .returned (.int .i64 9) ∧ w = w' := by
  obtain ⟨D, gs, h⟩ := h
  have hc := Lib.hid (hasSector_yes h d n hd hn)
  have c2 := h.c2
  have hm := h.most
  have hsM := h.secM
  have m2 : w.cell? ⟨D, d * 4 + 2, none⟩ = some (.map (some (gs d).m)) := h.dc hd (by decide)
  obtain ⟨Dm, hown, hf⟩ := (h.diskOf hd).map
  have hh : Maps.has Dm (.int .i64 (n : Int)) = true := by rw [(hf n).1]; exact hw
  have hkey := keyInt n (by omega)
  have t0 : decide ((i : Int) < 0) = false := by simp
  have t1 : decide ((i : Int) ≥ 128) = false := by simp; omega
  clear h hf hw
  generalize (S.disks.getD d default).waits.length = L at *
  generalize S.disks.length = k at *
  go_enter Tryz.func101, Tryz.ntmps101
  go_wp2_with (first
    | (go_at_call 82; refine hc.out.mono ?_; rintro e w' ⟨rfl, rfl⟩)
    | (at_lookup; refine wpList_lookup_own_ok_int _ rfl _ _ 113 rfl 3 3 .i64 lawInt Tryz.underlying113 Tryz.underlying3 (zeroInt _) (gs d).m L Dm rfl hown _ _ rfl hkey ?_; intro c hat hwc; clear hat hwc)
    | go_in)
  go_ret
  exact ⟨rfl, rfl⟩
theorem getD_memB {l : List Bs} {n : Nat} (h : n < l.length) : l.getD n [] ∈ l := by
  rw [List.getD, List.getElem?_eq_getElem h]; exact List.getElem_mem h
theorem sv_at {l : List Bs} {n : Nat} (h : n < l.length) : (l.map sv)[n]? = some (sv (l.getD n [])) := by
  rw [List.getElem?_map, List.getD, List.getElem?_eq_getElem h]; rfl
theorem map_set_sv (l : List Bs) (n : Nat) (b : Bs) : (l.map sv).set n (sv b) = (l.set n b).map sv := by rw [List.map_set]
/-- A sector was turned. -/
theorem corrupted {w w2 : World} {p D : Nat} {S : Sf} {F : Nat → Prop} {gs : Nat → Gh} (h : ShelfIs w p S F D gs) {d n i x gb cap : Nat} (hd : d < S.disks.length) (hn : n < S.sectors) (hx : x < 256) (hv : (gs d).s = .slice (some ⟨gb, 0, none⟩) S.sectors cap)
    (hO : Only (fun _ => False) w w2) : Left F w p (S.doCorrupt d n i x) (w2.setCell ⟨gb, n, none⟩ (sv (turnB ((S.disks.getD d default).sure.getD n []) i x))) := by
  have hdk := h.diskOf hd
  have hgbhas : (gs d).has gb := .inl (by rw [hv]; rfl)
  have hgbF : F gb := h.inF.2.2 d gb hd hgbhas
  have hgbp : gb ≠ p := by rintro rfl; exact h.np hd hgbhas
  have hgbD : gb ≠ D := by rintro rfl; exact h.nD hd hgbhas
  have hk2 : ∀ b, F b → w2.heap[b]? = w.heap[b]? := fun b hb => hO.block b (h.ltF b hb) (fun e => e)
  have hdk2 : DiskIs w2 S.sectors (gs d) (S.disks.getD d default) := hdk.same fun b hb => hk2 b (h.inF.2.2 d b hd hb)
  have hsec : Sec ((S.disks.getD d default).sure.getD n []) := hdk.secs _ (getD_memB (by rw [hdk.len]; exact hn))
  have hO2 : Only F w (w2.setCell ⟨gb, n, none⟩ (sv (turnB ((S.disks.getD d default).sure.getD n []) i x))) := (hO.mono (fun _ e => e.elim)).setCell (.inl hgbF) _
  have hs0 : w2.ownsRow 0 9 1 (.slice (some ⟨gb, 0, none⟩) S.sectors cap) S.sectors ((S.disks.getD d default).sure.map sv) := by rw [← hv]; exact hdk2.sure
  have hst := (hs0.stored n (sv (turnB ((S.disks.getD d default).sure.getD n []) i x))).1
  rw [map_set_sv] at hst
  have ht := h.turned (w' := w2.setCell ⟨gb, n, none⟩ (sv (turnB ((S.disks.getD d default).sure.getD n []) i x))) hd (gs d) ((S.disks.getD d default).turn n i x) S.off S.left S.count h.left ?_ ?_ ?_ ?_ hO2.size (fun b hb => .inl hb)
  · refine ⟨_, ⟨D, _, ht⟩, hO2, ?_⟩
    rintro b (hb | hb)
    · exact .inl hb
    · exact .inl (h.inF.2.2 d b hd hb)
  · exact (heap_set_other _ _ _ (Ne.symm hgbp)).trans ((hk2 p h.inF.1).trans h.root)
  · refine same_row (w := w) ?_ fun b hb => by
      injection hb with hb
      subst hb
      exact (heap_set_other _ _ _ (Ne.symm hgbD)).trans (hk2 _ h.inF.2.1)
    refine Eq.mp ?_ h.row
    congr 1
    refine rowOf_congr (by decide) fun a c _ hc => ?_
    by_cases ea : a = d
    · subst ea; rw [if_pos rfl]; rfl
    · rw [if_neg ea]
  · refine ⟨by show ((S.disks.getD d default).sure.set n _).length = S.sectors; rw [List.length_set]; exact hdk.len, by rw [hv]; exact hst, ?_, ?_, hdk.fits, ?_⟩
    · intro b hb
      rcases List.mem_or_eq_of_mem_set hb with hb | rfl
      · exact hdk.secs b hb
      · exact turnB_sec hsec hx
    · refine same_row hdk2.waits fun b hb => heap_set_other _ _ _ (fun e => ?_)
      exact row_ne_row hdk2.sure hdk2.waits (by decide) (b := gb) (by rw [hv]; rfl) (by rw [hb, e])
    · refine hdk2.map.same (heap_set_other _ _ _ (fun e => ?_))
      exact row_ne_map hdk2.sure hdk2.map (by rw [hv, e]; rfl)
  · intro b hb hbp hbD hbg
    have hne : b ≠ gb := by rintro rfl; exact hbg hgbhas
    exact (heap_set_other _ _ _ hne).trans (hk2 b hb)
set_option maxRecDepth 20000 in
set_option maxHeartbeats 2000000 in
theorem corrupt_done (w : World) (p d n i : Nat) (x : Nat) (hx : x < 256) {S : Sf} {F : Nat → Prop} (h : Shelf w p S F) (hd : d < S.disks.length) (hn : n < S.sectors) (hi : i < 128) (hw : lastOf (S.disks.getD d default).waits n = none) :
    Calls Tryz.prog 101 #[.pointer (some ⟨p, 0, none⟩), .int .i64 d, .int .i64 n, .int .i64 i, .int .u8 x] w fun e w' => e = .returned (.int .i64 0) ∧ Left F w p (S.doCorrupt d n i x) w' := by
  obtain ⟨D, gs, h⟩ := h
  have hc := Lib.hid (hasSector_yes h d n hd hn)
  have c2 := h.c2
  have hm := h.most
  have hsM := h.secM
  have hdk := h.diskOf hd
  have m2 : w.cell? ⟨D, d * 4 + 2, none⟩ = some (.map (some (gs d).m)) := h.dc hd (by decide)
  have m0 : w.cell? ⟨D, d * 4, none⟩ = some (gs d).s := h.dc (c := 0) hd (by decide)
  obtain ⟨Dm, hown, hf⟩ := hdk.map
  have hh : Maps.has Dm (.int .i64 (n : Int)) = false := by rw [(hf n).1, hw]; rfl
  have hkey := keyInt n (by omega)
  obtain ⟨gb, cap, hv, hgb, hlc, hcm⟩ := own_form hdk.sure (by omega)
  have hr := hdk.sure
  rw [hv] at hr m0
  have hcell := cell_at hr (j := n) (u := sv ((S.disks.getD d default).sure.getD n [])) (sv_at (by rw [hdk.len]; exact hn))
  have hfz := hr.frozenAt n
  have hsec : Sec ((S.disks.getD d default).sure.getD n []) := hdk.secs _ (getD_memB (by rw [hdk.len]; exact hn))
  have t0 : decide ((i : Int) < 0) = false := by simp
  have t1 : decide ((i : Int) ≥ 128) = false := by simp; omega
  have t2 : (i : Int) < 128 := by omega
  have hDlt := h.Dlt
  have hD1 : D ≠ gb := by rintro rfl; exact h.nD hd (.inl (by rw [hv]; rfl))
  have HEND := Lib.hid (fun w2 (hO : Only (fun _ => False) w w2) => corrupted (i := i) h hd hn hx hv hO)
  have kb := bytes_of w ((S.disks.getD d default).sure.getD n []) hsec.1
  have hby := bytes_new w ((S.disks.getD d default).sure.getD n []) hsec (grownCap w 128 0 5)
  have hO1 : Only (fun _ => False) w (w.drew.alloc (.cells (bytesRow (strL ((S.disks.getD d default).sure.getD n [])) (grownCap w 128 0 5)) 5 ((bytesRow (strL ((S.disks.getD d default).sure.getD n [])) (grownCap w 128 0 5)).size, (bytesRow (strL ((S.disks.getD d default).sure.getD n [])) (grownCap w 128 0 5)).size + 1))) := ((Only.refl _ w).drew).alloc _
  unfold turnB at HEND
  have hy := hsec.2.get i
  have hxor : bits .xor .u8 (((((S.disks.getD d default).sure.getD n []).getD i 0 : Nat)) : Int) (x : Int) = ((((S.disks.getD d default).sure.getD n []).getD i 0 ^^^ x : Nat) : Int) := u8_xor_nat _ x hy hx
  have hl128 := hsec.1
  clear h hdk hf hw hv hr hsec
  unfold sv at hcell
  generalize (S.disks.getD d default).waits.length = L at *
  generalize (S.disks.getD d default).sure.getD n [] = b at *
  generalize S.disks.length = k at *
  generalize S.sectors = sec at *
  generalize hW1 : w.drew.alloc (.cells (bytesRow (strL b) (grownCap w 128 0 5)) 5 ((bytesRow (strL b) (grownCap w 128 0 5)).size, (bytesRow (strL b) (grownCap w 128 0 5)).size + 1)) = W1 at *
  have hsz1 : w.heap.size < W1.heap.size := by rw [← hW1]; simp
  clear hW1
  obtain ⟨hrd, hfr⟩ := hby
  have e : ∀ j, (⟨w.heap.size, 0, none⟩ : Addr).add j = ⟨w.heap.size, j, none⟩ := fun j => by unfold Addr.add; split <;> simp_all
  have f1 : W1.frozen? ⟨w.heap.size, i, none⟩ = false := by have := (hfr _ rfl).2 i hi; rwa [e] at this
  obtain ⟨ad, had, hadl, hcells⟩ := hrd.2 (by decide)
  injection had with had
  subst had
  have kk1 : W1.cell? ⟨w.heap.size, i, none⟩ = some (.int .u8 ((b.getD i 0 : Nat) : Int)) := by
    have := hcells i _ (bts_get b i (by omega))
    rwa [e] at this
  have a0 : W1.cell? ⟨D, d * 4, none⟩ = _ := (hO1.cell (p := ⟨D, d * 4, none⟩) hDlt (fun e => e)).trans m0
  have an : W1.cell? ⟨gb, n, none⟩ = _ := (hO1.cell (p := ⟨gb, n, none⟩) hgb (fun e => e)).trans hcell
  have af : W1.frozen? ⟨gb, n, none⟩ = _ := (hO1.frozen (p := ⟨gb, n, none⟩) hgb (fun e => e)).trans hfz
  have hO2 : Only (fun _ => False) w (W1.setCell ⟨w.heap.size, i, none⟩ (.int .u8 ((b.getD i 0 ^^^ x : Nat) : Int))) := hO1.setCell (p := ⟨w.heap.size, i, none⟩) (.inr (Nat.le_refl _)) _
  have hrd2 : Reads (W1.setCell ⟨w.heap.size, i, none⟩ (.int .u8 ((b.getD i 0 ^^^ x : Nat) : Int))) (w.heap.size + 1) (some ⟨w.heap.size, 0, none⟩) 128 (bts (b.set i (b.getD i 0 ^^^ x))) := by
    refine ⟨by rw [bts_length, List.length_set, hl128], fun _ => ⟨_, rfl, Nat.lt_succ_self _, fun j u hu => ?_⟩⟩
    rw [e]
    rw [bts_set] at hu
    by_cases hji : j = i
    · subst hji
      rw [List.getElem?_set_self (by rw [bts_length]; omega)] at hu
      rw [World.cell?_setCell_same' W1 ⟨w.heap.size, j, none⟩ _ (by rw [kk1]; rfl)]
      exact hu
    · rw [List.getElem?_set_ne (Ne.symm hji)] at hu
      rw [World.cell?_setCell_other W1 ⟨w.heap.size, i, none⟩ ⟨w.heap.size, j, none⟩ _ (by intro e2; apply hji; injection e2 with _ e3 _; first | exact e3 | exact e3.symm)]
      have := hcells j u hu
      rwa [e] at this
  have hconv := run_str (grownCap w 128 0 5) (w := (W1.setCell ⟨w.heap.size, i, none⟩ (.int .u8 ((b.getD i 0 ^^^ x : Nat) : Int))).drew) (show Reads (W1.setCell ⟨w.heap.size, i, none⟩ (.int .u8 ((b.getD i 0 ^^^ x : Nat) : Int))).drew _ _ _ _ from hrd2)
  have a0' := (cell_set_other W1 ⟨w.heap.size, i, none⟩ ⟨D, d * 4, none⟩ (.int .u8 ((b.getD i 0 ^^^ x : Nat) : Int)) (Nat.ne_of_lt hDlt)).trans a0
  have an' := (cell_set_other W1 ⟨w.heap.size, i, none⟩ ⟨gb, n, none⟩ (.int .u8 ((b.getD i 0 ^^^ x : Nat) : Int)) (Nat.ne_of_lt hgb)).trans an
  have af' := (frozen_set W1 ⟨w.heap.size, i, none⟩ ⟨gb, n, none⟩ (.int .u8 ((b.getD i 0 ^^^ x : Nat) : Int)) (Nat.ne_of_lt hgb)).trans af
  have HF := Lib.hid (HEND.out _ hO2.drew)
  unfold sv at HF
  clear HEND hcells hrd hfr hO1 hO2 hrd2 hl128 hy
  generalize b.getD i 0 = y at *
  go_enter Tryz.func101, Tryz.ntmps101
  go_wp2_with (first
    | (go_at_call 82; refine hc.out.mono ?_; rintro e w' ⟨rfl, rfl⟩)
    | (at_lookup; refine wpList_lookup_own_ok_int _ rfl _ _ 113 rfl 3 3 .i64 lawInt Tryz.underlying113 Tryz.underlying3 (zeroInt _) (gs d).m L Dm rfl hown _ _ rfl hkey ?_; intro c hat hwc; clear hat hwc)
    | go_in)
  generalize W1.setCell ⟨w.heap.size, i, none⟩ (.int .u8 ((y ^^^ x : Nat) : Int)) = W2 at *
  clear kk1 f1 a0 an af kb hxor
  generalize strL (b.set i (y ^^^ x)) = sb at *
  go_still_tail 8, (by kernel_rfl)
  change wpList _ _ _ _ _ W2.drew
  go_wp2
  go_ret
  exact ⟨rfl, HF.out⟩
end Go.Proofs.YtplbgjjacomceaaGreatDoor.Sh
