/-
  A shelf among other memory: what holds of it, and of slices beside it, over calls in a row; and the statements' own lives.
  Conditions: none beyond each lemma's own.
-/
import Derived.Test.YtbkcdomapdflaaaHy
import Derived.Test.YtbkcdomapdflaaaHz
namespace Go.Proofs.Ytbkcdomapdflaaa.Sh
open Go.RowKit Go.Maps

/-- A shelf that the call made: all of it lies from block B on, and below B the world is as it was. -/
structure At (B : Nat) (W w : World) (p : Nat) (S : Sf) (F : Nat → Prop) : Prop where
  shelf : Shelf w p S F
  low : ∀ b, F b → B ≤ b
  bel : Below B W w
  size : B ≤ w.heap.size
/-- A slice of 128 bytes that is no part of the shelf. -/
def Beside (w : World) (F : Nat → Prop) (A : Option Addr) (l : Bs) : Prop := Reads w w.heap.size A 128 (bts l) ∧ ∀ a, A = some a → ¬ F a.block
section
variable {B : Nat} {W w w' : World} {p : Nat} {S S' : Sf} {F F' : Nat → Prop}
theorem At.left (h : At B W w p S F) (hl : Left F w p S' w') : ∃ F', At B W w' p S' F' ∧ Moves F w F' w' := by
  obtain ⟨F', hs, hm⟩ := hl
  exact ⟨F', ⟨hs, fun b hb => (hm.2 b hb).elim (h.low b) (fun e => Nat.le_trans h.size e), h.bel.trans (hm.1.below h.low h.size), Nat.le_trans h.size hm.1.size⟩, hm⟩
theorem At.grown (h : At B W w p S F) (hb : Below w.heap.size w w') : At B W w' p S F :=
  ⟨h.shelf.only (G := fun _ => False) ⟨hb.os, hb.tape, hb.output, hb.size, fun k hk _ => hb.block k hk⟩ (fun _ _ e => e), h.low, h.bel.trans (hb.mono h.size), Nat.le_trans h.size hb.size⟩
theorem At.stays (h : At B W w p S F) (hs : Shelf w' p S' F) (ho : Only F w w') : At B W w' p S' F :=
  ⟨hs, h.low, h.bel.trans (ho.below h.low h.size), Nat.le_trans h.size ho.size⟩
theorem Beside.moves {A : Option Addr} {l : Bs} (h : Beside w F A l) (hm : Moves F w F' w') : Beside w' F' A l := by
  refine ⟨⟨h.1.1, fun h0 => ?_⟩, fun a ha hF => ?_⟩
  · obtain ⟨ad, e, hlt, hc⟩ := h.1.2 h0
    refine ⟨ad, e, Nat.lt_of_lt_of_le hlt hm.1.size, fun j u hu => ?_⟩
    rw [hm.1.cell (p := ad.add j) (by rw [block_of_add]; exact hlt) (by rw [block_of_add]; exact h.2 ad e)]
    exact hc j u hu
  · rcases hm.2 _ hF with e | e
    · exact h.2 a ha e
    · obtain ⟨ad, e2, hlt, _⟩ := h.1.2 (by decide)
      rw [ha] at e2
      injection e2 with e2
      subst e2
      omega
theorem Beside.grown {A : Option Addr} {l : Bs} (h : Beside w F A l) (hb : Below w.heap.size w w') : Beside w' F A l :=
  ⟨(h.1.below hb).more hb.size, h.2⟩
theorem Beside.only {A : Option Addr} {l : Bs} (h : Beside w F A l) (ho : Only F w w') : Beside w' F A l := h.moves ⟨ho, fun _ h => .inl h⟩
/-- A Sector, made beside a shelf. -/
theorem beside_sector {b : Nat} (h : Shelf w p S F) (ho : w'.ownsRow w.heap.size 5 1 (.slice (some ⟨w.heap.size, 0, none⟩) 128 128) 128 (bts (secOf b))) : Beside w' F (some ⟨w.heap.size, 0, none⟩) (secOf b) :=
  ⟨Reads.of_own ho, fun a ha hF => by
    injection ha with ha
    subst ha
    have := h.ltF hF
    exact Nat.lt_irrefl _ this⟩
/-- What a Read has told, beside the shelf. -/
theorem beside_read {A : Option Addr} {l : Bs} (h : Shelf w p S F) (hb : Bytes w w' A l) : Beside w' F A l :=
  ⟨hb.1, fun a ha hF => by
    have := (hb.2 a ha).1
    have := h.ltF hF
    omega⟩
theorem Beside.str {A : Option Addr} {l : Bs} (h : Beside w F A l) (c : Nat) : (convert 36 9 (.slice A 128 c)).run Try.prog w = .ok (.string (strL l)) w := run_str c h.1
end
theorem below_drew {w w1 w2 : World} (h : Below w.drew.heap.size w.drew w1) (k : Below w1.heap.size w1 w2) : Below w.heap.size w w2 := by
  have e : Below w.heap.size w w1 := ⟨h.os, h.tape, h.output, h.size, h.block⟩
  exact e.trans (k.mono h.size)
/-- A list of one list of one number, in two new blocks. -/
theorem keep_lit (w : World) (x : Int) {F : Nat → Prop} (hF : ∀ b, F b → b < w.heap.size) :
    ∃ G : Nat → Prop, KeepIs ((w.alloc (.cells #[.int .i64 x] 3)).alloc (.cells #[.slice (some ⟨w.heap.size, 0, none⟩) 1 1] 59)) G (some ⟨w.heap.size + 1, 0, none⟩) 1 [[x]] ∧ ∀ b, G b → b < ((w.alloc (.cells #[.int .i64 x] 3)).alloc (.cells #[.slice (some ⟨w.heap.size, 0, none⟩) 1 1] 59)).heap.size ∧ ¬ F b := by
  have e : ∀ b j, (⟨b, 0, none⟩ : Addr).add j = ⟨b, j, none⟩ := fun b j => by unfold Addr.add; split <;> simp_all
  refine ⟨fun b => b = w.heap.size ∨ b = w.heap.size + 1, ⟨rfl, fun _ => ⟨_, rfl, .inr rfl, fun j hj => ?_⟩⟩, ?_⟩
  · obtain rfl : j = 0 := by omega
    refine ⟨some ⟨w.heap.size, 0, none⟩, 1, 1, ?_, by decide, ⟨rfl, fun _ => ⟨⟨w.heap.size, 0, none⟩, rfl, by simp; omega, fun j u hu => ?_⟩⟩, fun _ a ha => ?_⟩
    · rw [e, cell_of_row _ _ 0 _ _ _ (heap_alloc2_new w _ _)]; rfl
    · rw [e]
      match j, hu with
      | 0, hu =>
        rw [cell_of_row _ _ 0 _ _ _ (heap_alloc2_old w _ _)]
        exact hu
    · injection ha with ha; subst ha; exact .inl rfl
  · rintro b (rfl | rfl)
    · exact ⟨by simp; omega, fun h => Nat.lt_irrefl _ (hF _ h)⟩
    · exact ⟨by simp, fun h => by have := hF _ h; omega⟩
theorem beside_eq {w : World} {F : Nat → Prop} {A : Option Addr} {l l' : Bs} (h : Beside w F A l) (e : l = l') : Beside w F A l' := e ▸ h
theorem sector_1 (w : World) : Calls Try.prog 9 #[.int .u8 1] w fun e w' => e = .returned (.slice (some ⟨w.heap.size, 0, none⟩) 128 128) ∧
      w'.ownsRow w.heap.size 5 1 (.slice (some ⟨w.heap.size, 0, none⟩) 128 128) 128 (bts (secOf 1)) ∧ Below w.heap.size w w' := sector_any w 1 (by decide)
theorem sector_3 (w : World) : Calls Try.prog 9 #[.int .u8 3] w fun e w' => e = .returned (.slice (some ⟨w.heap.size, 0, none⟩) 128 128) ∧
      w'.ownsRow w.heap.size 5 1 (.slice (some ⟨w.heap.size, 0, none⟩) 128 128) 128 (bts (secOf 3)) ∧ Below w.heap.size w w' := sector_any w 3 (by decide)
theorem count_is {w : World} {p : Nat} {S : Sf} {F : Nat → Prop} (h : Shelf w p S F) {n : Int} (e : S.count = n) : Calls Try.prog 18 #[.pointer (some ⟨p, 0, none⟩)] w fun e w' => e = .returned (.int .i64 n) ∧ w = w' := by
  obtain ⟨D, gs, h⟩ := h
  subst e
  exact count_any h
theorem waits_is {w : World} {p : Nat} {S : Sf} {F : Nat → Prop} (h : Shelf w p S F) (d : Nat) (hd : d < S.disks.length) {n : Int} (e : ((S.disks.getD d default).waits.length : Int) = n) : Calls Try.prog 16 #[.pointer (some ⟨p, 0, none⟩), .int .i64 d] w fun e w' => e = .returned (.int .i64 n) ∧ w = w' := by
  obtain ⟨D, gs, h⟩ := h
  subst e
  exact waits_yes h d hd
theorem At.countIs {B : Nat} {W w : World} {p : Nat} {S : Sf} {F : Nat → Prop} (h : At B W w p S F) {n : Int} (e : S.count = n) (w' : World) (hb : Below w.heap.size w w') : Calls Try.prog 18 #[.pointer (some ⟨p, 0, none⟩)] w' fun e w'' => e = .returned (.int .i64 n) ∧ w' = w'' := count_is (h.grown hb).shelf e
theorem At.waitsIs {B : Nat} {W w : World} {p : Nat} {S : Sf} {F : Nat → Prop} (h : At B W w p S F) (d : Nat) (hd : d < S.disks.length) {n : Int} (e : ((S.disks.getD d default).waits.length : Int) = n) (w' : World) (hb : Below w.heap.size w w') : Calls Try.prog 16 #[.pointer (some ⟨p, 0, none⟩), .int .i64 d] w' fun e w'' => e = .returned (.int .i64 n) ∧ w' = w'' := waits_is (h.grown hb).shelf d hd e
/-- What the statements' last test asks: both texts may be converted, and nothing was lost. -/
theorem conv_on {w w' W : World} {F : Nat → Prop} {A : Option Addr} {c : Nat} {l : Bs} (h : Beside w F A l) (hb : Below w.heap.size w W) (hk : Below W.heap.size W w') : (convert 36 9 (.slice A 128 c)).run Try.prog w' = .ok (.string (strL l)) w' :=
  (h.grown (hb.trans (hk.mono hb.size))).str c
/-- What lay there of old. -/
def Old (W : World) (b : Nat) : Prop := b < W.heap.size
end Go.Proofs.Ytbkcdomapdflaaa.Sh
