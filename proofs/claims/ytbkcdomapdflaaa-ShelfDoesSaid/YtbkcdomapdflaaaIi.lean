/-
  What a write, a flush and a crash come to, whatever they are asked; lists of kept writes, seen later.
  Conditions: each theorem's own.
-/
import Derived.Test.YtbkcdomapdflaaaIg
namespace Go.Proofs.Ytbkcdomapdflaaa.Sh
open Go.RowKit Go.Maps

def Wrote (S : Sf) (d n : Int) (b : Bs) (y : Int) (S' : Sf) : Prop :=
  (S' = S ∧ y ≠ 0 ∧ (y = 1 ∨ S.off = true ∨ ∃ d' : Nat, d = d' ∧ d' < S.disks.length ∧ (S.disks.getD d' default).dead = true)) ∨ ∃ d' n' : Nat, d = d' ∧ n = n' ∧ d' < S.disks.length ∧ n' < S.sectors ∧ why S d' = 0 ∧ y = 0 ∧ S' = S.doWrite d' n' b
def Flushed (S : Sf) (d : Int) (y : Int) (S' : Sf) : Prop :=
  (S' = S ∧ y ≠ 0) ∨ ∃ d' : Nat, d = d' ∧ d' < S.disks.length ∧ why S d' = 0 ∧ y = 0 ∧ S' = S.doFlush d'
theorem getD_mem {l : List Dk} {d : Nat} (h : d < l.length) : l.getD d default ∈ l := by simp [List.getD, h]
section
variable {w : World} {p : Nat} {S : Sf} {F : Nat → Prop}
theorem left_here (h : Shelf w p S F) : Left F w p S w := ⟨F, h, Moves.refl _ _⟩
theorem why_cases (S : Sf) (d : Nat) : why S d = 0 ∨ (why S d ≠ 0 ∧ (S.off = true ∨ (S.disks.getD d default).dead = true)) := by
  unfold why
  by_cases h1 : S.off = true
  · rw [if_pos h1]; exact .inr ⟨by decide, .inl h1⟩
  · rw [if_neg h1]
    by_cases h2 : (S.disks.getD d default).dead = true
    · rw [if_pos h2]; exact .inr ⟨by decide, .inr h2⟩
    · rw [if_neg h2]; exact .inl rfl
theorem write_of (w : World) (p : Nat) (d n : Int) (b : Bs) {A : Option Addr} {c : Nat} (h : Shelf w p S F) (hL : ∀ k ∈ S.disks, k.waits.length < 4398046511104) (hb : Sec b) (hr : Reads w w.heap.size A 128 (bts b)) (hA : ∀ a, A = some a → ¬ F a.block) :
    Calls Try.prog 8 #[.pointer (some ⟨p, 0, none⟩), .int .i64 d, .int .i64 n, .slice A 128 c] w fun e w' => ∃ y S', e = .returned (.int .i64 y) ∧ Wrote S d n b y S' ∧ Left F w p S' w' := by
  by_cases hs : hasS S d n
  · obtain ⟨h1, h2, h3, h4⟩ := hs
    obtain ⟨d, rfl⟩ : ∃ m : Nat, d = (m : Int) := ⟨d.toNat, by omega⟩
    obtain ⟨n, rfl⟩ : ∃ m : Nat, n = (m : Int) := ⟨n.toNat, by omega⟩
    rcases why_cases S d with hw | ⟨hw, ho⟩
    · refine (write_done w p d n b h (by omega) (by omega) hw (hL _ (getD_mem (by omega))) hb hr hA).mono ?_
      rintro e w' ⟨rfl, hl⟩
      exact ⟨0, _, rfl, .inr ⟨d, n, rfl, rfl, by omega, by omega, hw, rfl, rfl⟩, hl⟩
    · refine (write_why w p d n h (by omega) (by omega) hw).mono ?_
      rintro e w' ⟨rfl, rfl⟩
      exact ⟨_, S, rfl, .inl ⟨rfl, hw, .inr (ho.elim .inl fun h => .inr ⟨d, rfl, by omega, h⟩)⟩, left_here h⟩
  · refine (write_refused w p d n h (.inl hs)).mono ?_
    rintro e w' ⟨rfl, rfl⟩
    exact ⟨1, S, rfl, .inl ⟨rfl, by decide, .inl rfl⟩, left_here h⟩
theorem flush_of (w : World) (p : Nat) (d : Int) (h : Shelf w p S F) (hL : ∀ k ∈ S.disks, k.waits.length < 4398046511104) :
    Calls Try.prog 10 #[.pointer (some ⟨p, 0, none⟩), .int .i64 d] w fun e w' => ∃ y S', e = .returned (.int .i64 y) ∧ Flushed S d y S' ∧ Left F w p S' w' := by
  by_cases hs : hasD S d
  · obtain ⟨h1, h2⟩ := hs
    obtain ⟨d, rfl⟩ : ∃ m : Nat, d = (m : Int) := ⟨d.toNat, by omega⟩
    rcases why_cases S d with hw | ⟨hw, ho⟩
    · refine (flush_done w p d h (by omega) hw (hL _ (getD_mem (by omega)))).mono ?_
      rintro e w' ⟨rfl, hl⟩
      exact ⟨0, _, rfl, .inr ⟨d, rfl, by omega, hw, rfl, rfl⟩, hl⟩
    · refine (flush_why w p d h (by omega) hw).mono ?_
      rintro e w' ⟨rfl, rfl⟩
      exact ⟨_, S, rfl, .inl ⟨rfl, hw⟩, left_here h⟩
  · refine (flush_refused w p d h hs).mono ?_
    rintro e w' ⟨rfl, rfl⟩
    exact ⟨1, S, rfl, .inl ⟨rfl, by decide⟩, left_here h⟩
theorem keep_below {w w' : World} {A : Option Addr} {n : Nat} {ks : List (List Int)} (h : KeepIs w (Old w) A n ks) (hb : Below w.heap.size w w') : KeepIs w' (Old w) A n ks := by
  refine ⟨h.1, fun h0 => ?_⟩
  obtain ⟨ad, e, h1, h2⟩ := h.2 h0
  refine ⟨ad, e, h1, fun j hj => ?_⟩
  obtain ⟨A', m, c, h3, h4, h5, h6⟩ := h2 j hj
  exact ⟨A', m, c, by rw [← h3]; exact hb.cell (by rw [block_of_add]; exact h1), h4, (h5.below hb).more hb.size, h6⟩
theorem crash_of {W : World} {B : Nat} (hBW : B = W.heap.size) (a : At B W w p S F) (A : Option Addr) (n c : Nat) {ks : List (List Int)} (hk : KeepIs W (Old W) A n ks) (hn : n ≤ 9223372036854775807) (hL : ∀ k ∈ S.disks, k.waits.length < 4398046511104) :
    Calls Try.prog 12 #[.pointer (some ⟨p, 0, none⟩), .slice A n c] w fun e w' => e = .returned (.tuple #[]) ∧ Left F w p (S.crash ks) w' := by
  subst hBW
  exact crash_any w p (Old W) A n c ks a.shelf (keep_below hk a.bel) (fun b hb => ⟨Nat.lt_of_lt_of_le hb a.size, fun hF => Nat.lt_irrefl _ (Nat.lt_of_lt_of_le hb (a.low b hF))⟩) hn hL
end
theorem crash_getD (S : Sf) (ks : List (List Int)) {d : Nat} (h : d < S.disks.length) : (S.crash ks).disks.getD d default = (S.disks.getD d default).settle (keptOf ks d) := by
  show (S.crashTo ks S.disks.length).disks.getD d default = _
  simp [Sf.crashTo, List.getD, h]
theorem crash_length (S : Sf) (ks : List (List Int)) : (S.crash ks).disks.length = S.disks.length := crashTo_length _ _ _
theorem crash_mem {S : Sf} {ks : List (List Int)} {k : Dk} (h : k ∈ (S.crash ks).disks) : ∃ k0 ∈ S.disks, k.dead = k0.dead ∧ k.waits = [] := by
  have h : k ∈ (S.crashTo ks S.disks.length).disks := h
  unfold Sf.crashTo at h
  obtain ⟨d, hd, rfl⟩ := List.mem_map.1 h
  have hd := List.mem_range.1 hd
  rw [if_pos hd]
  exact ⟨_, getD_mem hd, rfl, rfl⟩
end Go.Proofs.Ytbkcdomapdflaaa.Sh
