/-
  SumsCrash: plain facts, the calls that came in, the contracts, the table of texts.
  Conditions: each theorem's own.
-/
import Derived.Test.YtjdjpafnakhpcaaDoorUx
import Derived.Deep.AppendSrc
import Derived.Deep.AppendLies
import Derived.Deep.MidRow
namespace Go.Proofs.YtjdjpafnakhpcaaDoor.U
open Go.RowKit Go.Maps

/-- What surely stands in a sector. -/
def at' (k : Sh.Dk) (n : Nat) : Sh.Bs := k.sure.getD n []
theorem val_at {k : Sh.Dk} (h : k.waits = []) (n : Nat) : k.val n = at' k n := by
  show Sh.latest k.waits n _ = _
  rw [h]; rfl
theorem at_settle_nil {k : Sh.Dk} (h : k.waits = []) (kp : Nat → Bool) (n : Nat) : at' (k.settle kp) n = at' k n := by
  show (Sh.stl kp k.waits 0 k.sure).getD n [] = _
  rw [h]; rfl
theorem at_settle_one {k : Sh.Dk} {m : Nat} {b : Sh.Bs} (h : k.waits = [(m, b)]) (kp : Nat → Bool) (n : Nat) (hm : m < k.sure.length) : at' (k.settle kp) n = if kp 0 = true ∧ m = n then b else at' k n := by
  show (Sh.stl kp k.waits 0 k.sure).getD n [] = _
  rw [h]
  show (if kp 0 then k.sure.set m b else k.sure).getD n [] = _
  by_cases hk : kp 0 = true
  · rw [if_pos hk]
    by_cases hmn : m = n
    · subst hmn
      rw [if_pos ⟨hk, rfl⟩]
      generalize k.sure = u at *
      simp [List.getD, hm]
    · rw [if_neg (fun e => hmn e.2)]
      unfold at'
      simp [List.getD, List.getElem?_set_ne hmn]
  · rw [if_neg (by simpa using hk), if_neg (fun e => hk e.1)]
    rfl
/-- Whatever is kept: each block is good, and has what it may have. -/
def Safe (d nb : Nat) (k : Sh.Dk) (may : Nat → List Sh.Bs) : Prop := ∀ kp : Nat → Bool, ∀ j, j < nb → goodL d j (at' (k.settle kp) (sumOf j)) (at' (k.settle kp) (dataOf j)) = true ∧ at' (k.settle kp) (dataOf j) ∈ may j
/-- All that is sure is good, and has what it may have; one block at most waits, and the sum of what it is to have stands there. -/
structure Neat (d nb : Nat) (o : Int) (k : Sh.Dk) (may : Nat → List Sh.Bs) : Prop where
  secs : ∀ j, j < nb → (at' k (sumOf j)).length = 128
  fits : ∀ j, j < nb → dataOf j < k.sure.length ∧ sumOf j < k.sure.length
  good : ∀ j, j < nb → goodL d j (at' k (sumOf j)) (at' k (dataOf j)) = true ∧ at' k (dataOf j) ∈ may j
  waits : k.waits = [] ∨ ∃ i b, i < nb ∧ o = (i : Int) ∧ k.waits = [(dataOf i, b)] ∧ (sumL d i b = pr (at' k (sumOf i)) i 0 ∨ sumL d i b = pr (at' k (sumOf i)) i 1) ∧ b ∈ may i
  last : ∀ j, j < nb → (may j).getLast? = some (k.val (dataOf j))
section
variable {d nb : Nat} {o : Int} {k : Sh.Dk} {may : Nat → List Sh.Bs}
theorem Neat.safe (h : Neat d nb o k may) : Safe d nb k may := by
  intro kp j hj
  rcases h.waits with hw | ⟨i, b, hi, _, hw, hs, hb⟩
  · rw [at_settle_nil hw, at_settle_nil hw]; exact h.good j hj
  · rw [at_settle_one hw _ _ (h.fits i hi).1, at_settle_one hw _ _ (h.fits i hi).1]
    rw [if_neg (fun e => data_ne_sum i j e.2)]
    by_cases hc : kp 0 = true ∧ dataOf i = dataOf j
    · rw [if_pos hc]
      obtain rfl := dataOf_inj hc.2
      exact ⟨goodL_of hs, hb⟩
    · rw [if_neg hc]
      exact h.good j hj
theorem Safe.more {may' : Nat → List Sh.Bs} (h : Safe d nb k may) (hm : ∀ j, ∀ b ∈ may j, b ∈ may' j) : Safe d nb k may' := fun kp j hj => ⟨(h kp j hj).1, hm j _ (h kp j hj).2⟩
/-- The flush of a neat disk. -/
theorem Neat.flush (h : Neat d nb o k may) (o' : Int) : Neat d nb o' (k.settle (fun _ => true)) may ∧ ∀ j, j < nb → (k.settle (fun _ => true)).val (dataOf j) = k.val (dataOf j) ∧ (k.settle (fun _ => true)).val (sumOf j) = at' k (sumOf j) := by
  have hs := h.safe (fun _ => true)
  have hv : ∀ n, n < k.sure.length → (k.settle (fun _ => true)).val n = k.val n := fun n hn => val_settle k n hn
  have hlen : (k.settle (fun _ => true)).sure.length = k.sure.length := Sh.stl_length _ _ _ _
  have hsum : ∀ j, j < nb → at' (k.settle (fun _ => true)) (sumOf j) = at' k (sumOf j) := by
    intro j hj
    rcases h.waits with hw | ⟨i, b, hi, _, hw, _, _⟩
    · exact at_settle_nil hw _ _
    · rw [at_settle_one hw _ _ (h.fits i hi).1, if_neg (fun e => data_ne_sum i j e.2)]
  refine ⟨⟨fun j hj => by rw [hsum j hj]; exact h.secs j hj, fun j hj => by rw [hlen]; exact h.fits j hj, hs, .inl rfl, fun j hj => by rw [hv _ (h.fits j hj).1]; exact h.last j hj⟩, fun j hj => ⟨hv _ (h.fits j hj).1, ?_⟩⟩
  rw [val_at (k := k.settle (fun _ => true)) rfl]
  exact hsum j hj
/-- A neat disk whose one waiting block is not this one: its two sums are written. -/
theorem Neat.sums (h : Neat d nb o k may) (i : Nat) (hi : i < nb) (hno : k.waits = [] ∨ o ≠ (i : Int)) (sum : Nat) (hsm : Small (at' k (dataOf i))) :
    Safe d nb (k.write (sumOf i) (setPair (at' k (sumOf i)) i (sumL d i (at' k (dataOf i))) sum)) may ∧
    Neat d nb (-1) ((k.write (sumOf i) (setPair (at' k (sumOf i)) i (sumL d i (at' k (dataOf i))) sum)).settle (fun _ => true)) may ∧
    (∀ j, j < nb → ((k.write (sumOf i) (setPair (at' k (sumOf i)) i (sumL d i (at' k (dataOf i))) sum)).settle (fun _ => true)).val (dataOf j) = k.val (dataOf j)) ∧
    at' ((k.write (sumOf i) (setPair (at' k (sumOf i)) i (sumL d i (at' k (dataOf i))) sum)).settle (fun _ => true)) (sumOf i) = setPair (at' k (sumOf i)) i (sumL d i (at' k (dataOf i))) sum := by
  have hs := sumL_lt (d := d) (k := i) hsm
  have hl := h.secs i hi
  -- what stands there, whatever is kept
  have key : ∀ kp : Nat → Bool, ∃ kq : Nat → Bool, ∃ q : Bool, (∀ j, j < nb → at' ((k.write (sumOf i) (setPair (at' k (sumOf i)) i (sumL d i (at' k (dataOf i))) sum)).settle kp) (dataOf j) = at' (k.settle kq) (dataOf j)) ∧
      (∀ j, j < nb → at' ((k.write (sumOf i) (setPair (at' k (sumOf i)) i (sumL d i (at' k (dataOf i))) sum)).settle kp) (sumOf j) = if q = true ∧ sumOf i = sumOf j then setPair (at' k (sumOf i)) i (sumL d i (at' k (dataOf i))) sum else at' (k.settle kq) (sumOf j)) ∧ (kp = (fun _ => true) → kq = (fun _ => true) ∧ q = true) := by
    intro kp
    refine ⟨kp, kp k.waits.length, ?_, ?_, ?_⟩
    · intro j hj
      show (Sh.stl kp (k.waits ++ [(sumOf i, _)]) 0 k.sure).getD _ [] = (Sh.stl kp k.waits 0 k.sure).getD _ []
      rw [Sh.stl_snoc]
      split
      · simp only [List.getD, List.getElem?_set_ne (Ne.symm (data_ne_sum j i))]
      · rfl
    · intro j hj
      show (Sh.stl kp (k.waits ++ [(sumOf i, _)]) 0 k.sure).getD _ [] = if _ then _ else (Sh.stl kp k.waits 0 k.sure).getD _ []
      rw [Sh.stl_snoc]
      have hlen : sumOf i < (Sh.stl kp k.waits 0 k.sure).length := by rw [Sh.stl_length]; exact (h.fits i hi).2
      generalize Sh.stl kp k.waits 0 k.sure = u at *
      by_cases hq : kp (0 + k.waits.length) = true
      · rw [if_pos hq]
        rw [Nat.zero_add] at hq
        by_cases hij : sumOf i = sumOf j
        · rw [if_pos ⟨hq, hij⟩, ← hij]
          simp [List.getD, hlen]
        · rw [if_neg (fun e => hij e.2)]
          simp only [List.getD, List.getElem?_set_ne hij]
      · rw [if_neg hq]
        rw [Nat.zero_add] at hq
        rw [if_neg (fun e => hq e.1)]
    · rintro rfl
      exact ⟨rfl, rfl⟩
  have hdata : ∀ kq : Nat → Bool, at' (k.settle kq) (dataOf i) = at' k (dataOf i) := by
    intro kq
    rcases h.waits with hw | ⟨i', b, hi', ho, hw, _, _⟩
    · exact at_settle_nil hw _ _
    · rcases hno with hn | hn
      · rw [hn] at hw; cases hw
      · rw [at_settle_one hw _ _ (h.fits i' hi').1, if_neg]
        rintro ⟨_, e⟩
        obtain rfl := dataOf_inj e
        exact hn ho
  have hsafe : Safe d nb (k.write (sumOf i) (setPair (at' k (sumOf i)) i (sumL d i (at' k (dataOf i))) sum)) may := by
    intro kp j hj
    obtain ⟨kq, q, h1, h2, _⟩ := key kp
    obtain ⟨g1, g2⟩ := h.safe kq j hj
    rw [h1 j hj, h2 j hj]
    refine ⟨?_, g2⟩
    by_cases hc : q = true ∧ sumOf i = sumOf j
    · rw [if_pos hc]
      have hsj : at' (k.settle kq) (sumOf j) = at' k (sumOf i) := by
        rw [← hc.2]
        rcases h.waits with hw | ⟨i', b, hi', _, hw, _, _⟩
        · exact at_settle_nil hw _ _
        · rw [at_settle_one hw _ _ (h.fits i' hi').1, if_neg (fun e => data_ne_sum i' i e.2)]
      by_cases hij : j = i
      · subst hij
        rw [hdata kq]
        exact goodL_of (.inl (pr_set_0 hl hs).symm)
      · rw [goodL_other hl (sumOf_eq hc.2.symm hij), ← hsj]
        exact g1
    · rw [if_neg hc]; exact g1
  obtain ⟨kq, q, k1, k2, k3⟩ := key (fun _ => true)
  obtain ⟨rfl, rfl⟩ := k3 rfl
  have hvd : ∀ j, j < nb → ((k.write (sumOf i) (setPair (at' k (sumOf i)) i (sumL d i (at' k (dataOf i))) sum)).settle (fun _ => true)).val (dataOf j) = k.val (dataOf j) := by
    intro j hj
    rw [val_at (k := ((k.write (sumOf i) (setPair (at' k (sumOf i)) i (sumL d i (at' k (dataOf i))) sum)).settle (fun _ => true))) rfl, k1 j hj, ← val_at (k := k.settle (fun _ => true)) rfl, val_settle _ _ (h.fits j hj).1]
  have hat : at' ((k.write (sumOf i) (setPair (at' k (sumOf i)) i (sumL d i (at' k (dataOf i))) sum)).settle (fun _ => true)) (sumOf i) = setPair (at' k (sumOf i)) i (sumL d i (at' k (dataOf i))) sum := by
    rw [k2 i hi, if_pos ⟨rfl, rfl⟩]
  have hlen : ((k.write (sumOf i) (setPair (at' k (sumOf i)) i (sumL d i (at' k (dataOf i))) sum)).settle (fun _ => true)).sure.length = k.sure.length := Sh.stl_length _ _ _ _
  refine ⟨hsafe, ⟨fun j hj => ?_, fun j hj => by rw [hlen]; exact h.fits j hj, fun j hj => hsafe (fun _ => true) j hj, .inl rfl, fun j hj => by rw [hvd j hj]; exact h.last j hj⟩, hvd, hat⟩
  rw [k2 j hj]
  split
  · exact setPair_length hl
  · have := (h.flush 0).1.secs j hj
    exact this
/-- A disk of which nothing waits: a block is written, the second of whose sums is that of what it is to have. -/
theorem Neat.data {o' : Int} (h : Neat d nb o k may) (hw : k.waits = []) (i : Nat) (hi : i < nb) (b : Sh.Bs) (ho : o' = (i : Int)) (hs : sumL d i b = pr (at' k (sumOf i)) i 0 ∨ sumL d i b = pr (at' k (sumOf i)) i 1) :
    Neat d nb o' (k.write (dataOf i) b) (fun j => if j = i then may j ++ [b] else may j) := by
  have hat : ∀ n, at' (k.write (dataOf i) b) n = at' k n := fun _ => rfl
  refine ⟨h.secs, h.fits, fun j hj => ?_, .inr ⟨i, b, hi, ho, by show k.waits ++ [(dataOf i, b)] = _; rw [hw]; rfl, hs, by simp⟩, fun j hj => ?_⟩
  · obtain ⟨g1, g2⟩ := h.good j hj
    refine ⟨g1, ?_⟩
    rw [hat]
    split
    · exact List.mem_append_left _ g2
    · exact g2
  · rw [val_write]
    by_cases hji : j = i
    · subst hji
      simp
    · rw [if_neg hji, if_neg (fun e => hji (dataOf_inj e).symm)]
      exact h.last j hj
/-- Behind a flush only what was last counts. -/
theorem Neat.trim (h : Neat d nb o k may) (hw : k.waits = []) : Neat d nb o k (fun j => (may j).drop ((may j).length - 1)) := by
  have hl : ∀ j, j < nb → (may j).drop ((may j).length - 1) = [at' k (dataOf j)] := by
    intro j hj
    have h1 := h.last j hj
    rw [val_at hw] at h1
    obtain ⟨ys, e⟩ := List.getLast?_eq_some_iff.mp h1
    rw [e]
    simp
  refine ⟨h.secs, h.fits, fun j hj => ⟨(h.good j hj).1, by rw [hl j hj]; simp⟩, .inl hw, fun j hj => ?_⟩
  rw [hl j hj, val_at hw]
  rfl
end
end Go.Proofs.YtjdjpafnakhpcaaDoor.U
namespace Go.Proofs.YtjdjpafnakhpcaaDoor.U
open Go.RowKit Go.Maps

/-- Disk d. -/
def dk (S : Sh.Sf) (d : Nat) : Sh.Dk := S.disks.getD d default
/-- A disk of a shelf that lives; its power may be out. -/
structure One (S : Sh.Sf) (d : Nat) : Prop where
  lt : d < S.disks.length
  forty : S.sectors = 40
  alive : (dk S d).dead = false
  len : (dk S d).sure.length = 40
section
variable {S : Sh.Sf} {d : Nat}
theorem One.why (h : One S d) : Sh.why S d = if S.off = true then 3 else 0 := by
  have := h.alive
  unfold dk at this
  unfold Sh.why
  rw [this]
  rfl
theorem One.why0 (h : One S d) : Sh.why S d = 0 ↔ S.off = false := by
  rw [h.why]
  cases S.off <;> simp
theorem One.dk_wr (h : One S d) (n : Nat) (b : Sh.Bs) (hw : Sh.why S d = 0) : dk (Wr S d n b) d = (dk S d).write n b := by
  have := wr_getD S d n b h.lt hw d
  rwa [if_pos rfl] at this
theorem One.dk_fl (h : One S d) (hw : Sh.why S d = 0) : dk (Fl S d) d = (dk S d).settle (fun _ => true) := by
  have := fl_getD S d h.lt hw d
  rwa [if_pos rfl] at this
theorem One.wr (h : One S d) (n : Nat) (b : Sh.Bs) : One (Wr S d n b) d := by
  by_cases hw : Sh.why S d = 0
  · exact ⟨by rw [wr_length]; exact h.lt, by rw [wr_sectors]; exact h.forty, by rw [h.dk_wr n b hw]; exact h.alive, by rw [h.dk_wr n b hw]; exact h.len⟩
  · rw [wr_why hw]; exact h
theorem One.fl (h : One S d) : One (Fl S d) d := by
  by_cases hw : Sh.why S d = 0
  · exact ⟨by rw [fl_length]; exact h.lt, by rw [fl_sectors]; exact h.forty, by rw [h.dk_fl hw]; exact h.alive, by rw [h.dk_fl hw]; exact (Sh.stl_length _ _ _ _).trans h.len⟩
  · rw [fl_why hw]; exact h
theorem dk_looked (S : Sh.Sf) (d e : Nat) : dk (Looked S d) e = dk S e := by unfold dk; rw [looked_disks]
theorem One.looked (h : One S d) : One (Looked S d) d :=
  ⟨by rw [looked_disks]; exact h.lt, by rw [looked_sectors]; exact h.forty, by rw [dk_looked]; exact h.alive, by rw [dk_looked]; exact h.len⟩
end
/-- Whatever a crash keeps, all is well; and while the power is on, one block at most waits. -/
structure Jn (S : Sh.Sf) (d : Nat) (o : Int) (may : Nat → List Sh.Bs) : Prop where
  one : One S d
  safe : Safe d 37 (dk S d) may
  neat : S.off = false → Neat d 37 o (dk S d) may
section
variable {S S' : Sh.Sf} {d : Nat} {o o' : Int} {may : Nat → List Sh.Bs}
theorem Neat.any (h : Neat d 37 o (dk S d) may) (hw : (dk S d).waits = []) (o' : Int) : Neat d 37 o' (dk S d) may := ⟨h.secs, h.fits, h.good, .inl hw, h.last⟩
theorem Jn.of (h1 : One S d) (h2 : Neat d 37 o (dk S d) may) : Jn S d o may := ⟨h1, h2.safe, fun _ => h2⟩
/-- Nothing is done any more: the list of what may be there grows. -/
theorem Jn.over (h1 : One S d) (h2 : Safe d 37 (dk S d) may) (hoff : S.off ≠ false) (o' : Int) : Jn S d o' may := ⟨h1, h2, fun e => absurd e hoff⟩
theorem grow_may (k : Nat) (b : Sh.Bs) : ∀ j, ∀ x ∈ may j, x ∈ (fun j => if j = k then may j ++ [b] else may j) j := by
  intro j x hx
  dsimp only
  split
  · exact List.mem_append_left _ hx
  · exact hx
theorem Jn.off_write (h : Jn S d o may) (hoff : S.off ≠ false) (k : Nat) (b : Sh.Bs) (o' : Int) : Jn S d o' (fun j => if j = k then may j ++ [b] else may j) :=
  Jn.over h.one (h.safe.more (grow_may k b)) hoff o'
/-- All that can be read is good. -/
theorem Jn.good (h : Jn S d o may) (hon : S.off = false) (k : Nat) (hk : k < 37) : goodAt S d k = true := by
  have h1 := (h.safe (fun _ => true) k hk).1
  have h2 := (h.neat hon).fits k hk
  have e1 : at' ((dk S d).settle (fun _ => true)) (sumOf k) = V S d (sumOf k) := by rw [← val_at rfl, val_settle _ _ h2.2]; rfl
  have e2 : at' ((dk S d).settle (fun _ => true)) (dataOf k) = V S d (dataOf k) := by rw [← val_at rfl, val_settle _ _ h2.1]; rfl
  rw [e1, e2] at h1
  exact h1
theorem Jn.flush (h : Jn S d o may) : Jn (Fl S d) d (shut (Sh.why S d) o) (fun j => if Sh.why S d = 0 then (may j).drop ((may j).length - 1) else may j) := by
  by_cases hw : Sh.why S d = 0
  · have hn := h.neat (h.one.why0.mp hw)
    have h1 := (hn.flush (-1)).1
    have h2 := h1.trim rfl
    rw [← h.one.dk_fl hw] at h2
    have := Jn.of h.one.fl h2
    simp only [hw, if_true, shut]
    exact this
  · rw [fl_why hw]
    simp only [hw, if_false, shut]
    exact h
theorem Jn.write (h : Jn S d o may) (hon : S.off = false) (k : Nat) (hk : k < 37) (b b' : Sh.Bs) (hb : Small b) (hv : Small (V S d (dataOf k)))
    (ho : Sh.why (ReadyQ (Looked S d) d o k true (sumL d k (V S d (dataOf k))) (sumL d k b) (V S d (sumOf k)) b') d = 0 → o' = (k : Int)) :
    Jn (Wr (ReadyQ (Looked S d) d o k true (sumL d k (V S d (dataOf k))) (sumL d k b) (V S d (sumOf k)) b') d (dataOf k) b) d o' (fun j => if j = k then may j ++ [b] else may j) := by
  have hne : (true = false) = False := by simp
  unfold ReadyQ spIf first at *
  simp only [hne, false_and, if_false, if_true] at *
  have hn := h.neat hon
  have ha : One (Looked S d) d := h.one.looked
  have hda : dk (Looked S d) d = dk S d := dk_looked S d d
  have hwa : Sh.why (Looked S d) d = 0 := by rw [looked_why]; exact h.one.why0.mpr hon
  -- the block that waits is not this one
  obtain ⟨S1, hS1, o1, n1, e1, e2, e3, hsafe1⟩ : ∃ S1, flIf (Looked S d) d o k = S1 ∧ One S1 d ∧ Neat d 37 o (dk S1 d) may ∧ V S d (sumOf k) = at' (dk S1 d) (sumOf k) ∧ V S d (dataOf k) = at' (dk S1 d) (dataOf k) ∧ ((dk S1 d).waits = [] ∨ o ≠ (k : Int)) ∧ Safe d 37 (dk S1 d) may := by
    refine ⟨_, rfl, ?_⟩
    unfold flIf
    by_cases hko : (k : Int) = o
    · rw [if_pos hko]
      have hf : dk (Fl (Looked S d) d) d = (dk S d).settle (fun _ => true) := by rw [ha.dk_fl hwa, hda]
      obtain ⟨q1, q2⟩ := hn.flush o
      have q3 := q2 k hk
      rw [hf]
      refine ⟨ha.fl, q1, ?_, ?_, .inl rfl, q1.safe⟩
      · rw [← val_at rfl, q3.2]
        have := val_settle (dk S d) (sumOf k) (hn.fits k hk).2
        rw [q3.2] at this
        exact this.symm
      · rw [← val_at rfl, q3.1]; rfl
    · rw [if_neg hko, hda]
      refine ⟨ha, hn, ?_, ?_, .inr fun e => hko e.symm, h.safe⟩
      · have h2 := (hn.flush o).2 k hk
        rw [← h2.2]
        exact (val_settle (dk S d) (sumOf k) (hn.fits k hk).2).symm
      · show (dk S d).val (dataOf k) = _
        rcases hn.waits with hw | ⟨i, c, hi, hoi, hw, _, _⟩
        · exact val_at hw _
        · show Sh.latest (dk S d).waits (dataOf k) (at' (dk S d) (dataOf k)) = _
          rw [hw]
          show (if dataOf i = dataOf k then c else at' (dk S d) (dataOf k)) = _
          rw [if_neg]
          intro e
          obtain rfl := dataOf_inj e
          exact hko hoi.symm
  rw [hS1] at ho ⊢
  rw [e1, e2] at ho ⊢
  rw [e2] at hv
  clear e1 e2 hS1 ha hda hwa hn hon h
  obtain ⟨s1, s2, s3, s4⟩ := n1.sums k hk e3 (sumL d k b) hv
  have hp := pr_set_1 (k := k) (x := sumL d k (at' (dk S1 d) (dataOf k))) (n1.secs k hk) (sumL_lt (d := d) (k := k) hb)
  generalize setPair (at' (dk S1 d) (sumOf k)) k (sumL d k (at' (dk S1 d) (dataOf k))) (sumL d k b) = X at *
  by_cases w1 : Sh.why S1 d = 0
  · have o2 := o1.wr (sumOf k) X
    have d2 := o1.dk_wr (sumOf k) X w1
    rw [← d2] at s1 s2 s3 s4
    generalize Wr S1 d (sumOf k) X = S2 at *
    by_cases w2 : Sh.why S2 d = 0
    · have o3 := o2.fl
      have d3 := o2.dk_fl w2
      rw [← d3] at s2 s3 s4
      have hw3 : (dk (Fl S2 d) d).waits = [] := by rw [d3]; rfl
      generalize Fl S2 d = S3 at *
      by_cases w3 : Sh.why S3 d = 0
      · have hq := s2.data hw3 k hk b (ho w3) (.inr (by rw [s4]; exact hp.symm))
        rw [← o3.dk_wr (dataOf k) b w3] at hq
        exact Jn.of (o3.wr _ _) hq
      · rw [wr_why w3]
        exact Jn.over o3 (s2.safe.more (grow_may k b)) (fun e => w3 (o3.why0.mpr e)) o'
    · rw [fl_why w2, wr_why w2]
      exact Jn.over o2 (s1.more (grow_may k b)) (fun e => w2 (o2.why0.mpr e)) o'
  · rw [wr_why w1, fl_why w1, wr_why w1]
    exact Jn.over o1 (hsafe1.more (grow_may k b)) (fun e => w1 (o1.why0.mpr e)) o'
theorem Jn.stop (h : Jn S d o may) (n : Int) : Jn (S.doStop n) d o may := by
  unfold Sh.Sf.doStop
  split
  · exact h
  · rename_i hoff
    refine ⟨⟨h.one.lt, h.one.forty, h.one.alive, h.one.len⟩, h.safe, fun _ => h.neat (by simpa using hoff)⟩
theorem getD_rep' {n m : Nat} (x : Sh.Bs) (hm : m < n) : (List.replicate n x).getD m [] = x := by
  simp [List.getD, hm]
theorem Jn.new {n : Nat} (hd : d < n) : Jn (Sh.newSf n 40) d (-1) (fun _ => [Sh.noughts]) := by
  have hk : dk (Sh.newSf n 40) d = Sh.newDk 40 := by
    unfold dk
    show (List.replicate n (Sh.newDk 40)).getD d default = _
    simp [List.getD, hd]
  have hat : ∀ m, m < 40 → at' (dk (Sh.newSf n 40) d) m = Sh.noughts := by
    intro m hm
    rw [hk]
    show (List.replicate 40 Sh.noughts).getD m [] = _
    exact getD_rep' _ hm
  have hlt : ∀ j, j < 37 → dataOf j < 40 ∧ sumOf j < 40 := fun j hj => ⟨(sum_of_lt (n := 40) hj).1, (sum_of_lt (n := 40) hj).2.1⟩
  refine Jn.of ⟨by simpa [Sh.newSf] using hd, rfl, by rw [hk]; rfl, by rw [hk]; simp [Sh.newDk]⟩ ⟨?_, ?_, ?_, .inl (by rw [hk]; rfl), ?_⟩
  · intro j hj; rw [hat _ (hlt j hj).2]; rfl
  · intro j hj; rw [hk]; simpa [Sh.newDk] using hlt j hj
  · intro j hj
    have hgd := good_noughts (S := Sh.newSf n 40) (d := d) (k := j) (V_new hd (hlt j hj).2) (V_new hd (hlt j hj).1)
    unfold goodAt at hgd
    rw [V_new hd (hlt j hj).2, V_new hd (hlt j hj).1] at hgd
    rw [hat _ (hlt j hj).2, hat _ (hlt j hj).1]
    exact ⟨hgd, by simp⟩
  · intro j hj
    rw [val_at (by rw [hk]; rfl), hat _ (hlt j hj).1]
    rfl
/-- Behind a crash each block is good, and has what it may have. -/
theorem Jn.crash (h : Jn S d o may) (ks : List (List Int)) : Calm (S.crash ks) d ∧ (S.crash ks).sectors = 40 ∧ ∀ k, k < 37 → goodAt (S.crash ks) d k = true ∧ V (S.crash ks) d (dataOf k) ∈ may k := by
  refine ⟨crash_calm ks h.one.lt h.one.alive (by rw [h.one.forty]; exact h.one.len), h.one.forty, fun k hk => ?_⟩
  have hg : dk (S.crash ks) d = (dk S d).settle (Sh.keptOf ks d) := Sh.crash_getD S ks h.one.lt
  have h1 := h.safe (Sh.keptOf ks d) k hk
  have hv : ∀ n, V (S.crash ks) d n = at' ((dk S d).settle (Sh.keptOf ks d)) n := by
    intro n
    show (dk (S.crash ks) d).val n = _
    rw [hg]
    exact val_at rfl n
  unfold goodAt
  rw [hv, hv]
  exact h1
end
end Go.Proofs.YtjdjpafnakhpcaaDoor.U
namespace Go.Proofs.YtjdjpafnakhpcaaDoor.Sh
open Go.ChangeShapes Go.WideShapes Go.ChangeAt Go.RowKit Go.Maps

section
variable {H : Type} {enc : TypeId × Value → H} {W : World}
theorem cellsOp6 : Tryd.prog.cellsOf 45 = 5 := by kernel_rfl
/-- A call of the statements' own kind. -/
structure Op6 where
  kind : Int
  n : Int
  at_ : Int
  x : Nat
  A : Option Addr
  m : Nat
  c : Nat
  ks : List (List Int)
def I64 (z : Int) : Prop := -9223372036854775808 ≤ z ∧ z ≤ 9223372036854775807
/-- Five cells that hold a call. -/
structure Op6Is (W : World) (b o : Nat) (v : Op6) : Prop where
  c0 : W.cell? ⟨b, o, none⟩ = some (.int .i64 v.kind)
  c1 : W.cell? ⟨b, o + 1, none⟩ = some (.int .i64 v.n)
  c2 : W.cell? ⟨b, o + 2, none⟩ = some (.int .i64 v.at_)
  c3 : W.cell? ⟨b, o + 3, none⟩ = some (.int .u8 (v.x : Int))
  c4 : W.cell? ⟨b, o + 4, none⟩ = some (.slice v.A v.m v.c)
  b0 : I64 v.kind
  b1 : I64 v.n
  b2 : I64 v.at_
  b3 : v.x < 256
  b4 : v.m ≤ 9223372036854775807
  keep : KeepIs W (Old W) v.A v.m v.ks
def Ops6 (W : World) (A : Option Addr) (n : Nat) (f : Nat → Op6) : Prop := n ≤ 9223372036854775807 ∧ (0 < n → ∃ b off, A = some ⟨b, off, none⟩ ∧ b < W.heap.size ∧ ∀ i, i < n → Op6Is W b (off + i * 5) (f i))
set_option maxRecDepth 20000 in
theorem op_in {b o m : Nat} {cs : List Value} {y : DataW H × List MemPlace} (hl : cs.length = 5) (hc : ∀ k, k < 5 → ∃ v, cs[k]? = some v ∧ W.cell? ⟨b, o + k, none⟩ = some v) (h : DataW.trod enc Tryd.prog W 0 (fun _ => true) true m 45 cs = some y) : ∃ v : Op6, Op6Is W b o v := by
  obtain ⟨xs, k, rfl, _, _, hxs, hf⟩ := DataW.trod_struct Tryd.underlying45 h
  match cs, hl with
  | [v0, v1, v2, v3, v4], _ =>
    have hs : xs.length = 5 := hxs
    have g : ∀ i, i < 5 → ∃ z, xs[i]? = some z := fun i hi => ⟨_, List.getElem?_eq_getElem (by omega)⟩
    have f0 := hf 0 _ rfl
    have f1 := hf 1 _ rfl
    have f2 := hf 2 _ rfl
    have f3 := hf 3 _ rfl
    have f4 := hf 4 _ rfl
    obtain ⟨z0, e0⟩ := g 0 (by decide)
    obtain ⟨z1, e1⟩ := g 1 (by decide)
    obtain ⟨z2, e2⟩ := g 2 (by decide)
    obtain ⟨z3, e3⟩ := g 3 (by decide)
    obtain ⟨z4, e4⟩ := g 4 (by decide)
    rw [e0] at f0
    rw [e1] at f1
    rw [e2] at f2
    rw [e3] at f3
    rw [e4] at f4
    obtain ⟨kind, rfl, a0, a0'⟩ := int_of (v := v0) (show DataW.trod enc Tryd.prog W 0 (fun _ => true) true k 3 [v0] = some z0 from f0)
    obtain ⟨n, rfl, a1, a1'⟩ := int_of (v := v1) (show DataW.trod enc Tryd.prog W 0 (fun _ => true) true k 3 [v1] = some z1 from f1)
    obtain ⟨at_, rfl, a2, a2'⟩ := int_of (v := v2) (show DataW.trod enc Tryd.prog W 0 (fun _ => true) true k 3 [v2] = some z2 from f2)
    obtain ⟨x, rfl, a3⟩ := u8_of (v := v3) (show DataW.trod enc Tryd.prog W 0 (fun _ => true) true k 5 [v3] = some z3 from f3)
    have g4 := show DataW.trod enc Tryd.prog W 0 (fun _ => true) true k 33 [v4] = some z4 from f4
    obtain ⟨A', n', c', rfl⟩ : ∃ A' n' c', v4 = .slice A' n' c' := by
      rcases DataW.trod_slice Tryd.underlying33 g4 with ⟨h0, _⟩ | ⟨a, len, cap, _, _, _, _, h0, _⟩
      · simp only [List.cons.injEq, and_true] at h0; exact ⟨_, _, _, h0⟩
      · simp only [List.cons.injEq, and_true] at h0; exact ⟨_, _, _, h0⟩
    obtain ⟨ks, h1, h2⟩ := keep_in g4
    have cc : ∀ k, k < 5 → ∀ u, [Value.int .i64 kind, .int .i64 n, .int .i64 at_, .int .u8 (x : Int), .slice A' n' c'][k]? = some u → W.cell? ⟨b, o + k, none⟩ = some u := fun k hk u hu => by
      obtain ⟨v, hv, hcv⟩ := hc k hk
      rw [hu] at hv
      injection hv with hv
      rw [hv]; exact hcv
    exact ⟨⟨kind, n, at_, x, A', n', c', ks⟩, cc 0 (by decide) _ rfl, cc 1 (by decide) _ rfl, cc 2 (by decide) _ rfl, cc 3 (by decide) _ rfl, cc 4 (by decide) _ rfl, ⟨a0, a0'⟩, ⟨a1, a1'⟩, ⟨a2, a2'⟩, a3, h1, h2⟩
theorem ops_in {fuel n c : Nat} {A : Option Addr} {x : DataW H × List MemPlace} (h : DataW.trod enc Tryd.prog W 0 (fun _ => true) true fuel 32 [.slice A n c] = some x) : ∃ f, Ops6 W A n f := by
  rcases DataW.trod_slice Tryd.underlying32 h with ⟨h0, hx⟩ | ⟨a, len, cap, elems, rest, m, _, h0, hx, _, hl, hm, hlen, hel, _⟩
  · simp only [List.cons.injEq, Value.slice.injEq, and_true] at h0
    obtain ⟨rfl, rfl, rfl⟩ := h0
    exact ⟨fun _ => ⟨0, 0, 0, 0, none, 0, 0, []⟩, by decide, fun h => absurd h (by decide)⟩
  · simp only [List.cons.injEq, Value.slice.injEq, and_true] at h0
    obtain ⟨rfl, rfl, rfl⟩ := h0
    have hcs : ∀ i, i < n → ∃ cs y, cs.length = 5 ∧ (∀ k, k < 5 → ∃ v, cs[k]? = some v ∧ W.cell? ((a.add (i * 5)).add k) = some v) ∧ DataW.trod enc Tryd.prog W 0 (fun _ => true) true m 45 cs = some y := by
      intro i hi
      have h1 := hel i hi
      rw [cellsOp6, List.getElem?_eq_getElem (by omega), Option.bind_eq_some_iff] at h1
      obtain ⟨cs, hcs, hy⟩ := h1
      obtain ⟨hl1, hg⟩ := cells_get hcs
      exact ⟨cs, _, hl1, hg, hy⟩
    rcases Nat.eq_zero_or_pos n with h0 | h0
    · exact ⟨fun _ => ⟨0, 0, 0, 0, none, 0, 0, []⟩, by unfold maxLen at hm; omega, fun h => by omega⟩
    · obtain ⟨b, off, spot⟩ := a
      obtain ⟨cs, y, _, hg, _⟩ := hcs 0 h0
      obtain ⟨v, _, hv⟩ := hg 0 (by decide)
      have hspot : spot = none := by simpa [Addr.add] using World.cell?_spot hv
      subst hspot
      have hblt := World.block_lt_of_cell? W _ hv
      rw [block_of_add, block_of_add] at hblt
      have hz : ∀ i, ∃ v : Op6, i < n → Op6Is W b (off + i * 5) v := by
        intro i
        by_cases hi : i < n
        · obtain ⟨cs, y, hl5, hg, hy⟩ := hcs i hi
          obtain ⟨v, hv⟩ := op_in (b := b) (o := off + i * 5) hl5 (fun k hk => by
            obtain ⟨v, h1, h2⟩ := hg k hk
            rw [add_of_add, add_plain, ← Nat.add_assoc] at h2
            exact ⟨v, h1, h2⟩) hy
          exact ⟨v, fun _ => hv⟩
        · exact ⟨⟨0, 0, 0, 0, none, 0, 0, []⟩, fun h => absurd h hi⟩
      obtain ⟨f, hf⟩ := Classical.axiomOfChoice hz
      exact ⟨f, by unfold maxLen at hm; omega, fun _ => ⟨b, off, rfl, hblt, hf⟩⟩
end
end Go.Proofs.YtjdjpafnakhpcaaDoor.Sh
namespace Go.Proofs.YtjdjpafnakhpcaaDoor.U
open Go.RowKit Go.Maps

section
variable {B : Nat} {W w : World} {a p d : Nat} {o : Int} {S : Sh.Sf} {F : Nat → Prop} {may : Nat → List Sh.Bs}
/-- What a call of the disk leaves, of what may be there. -/
def Jns (B : Nat) (W w w' : World) (a p d : Nat) (F : Nat → Prop) (m : Nat) (may : Nat → List Sh.Bs) : Prop := ∃ o' S' F', Dv B W w' a p d o' S' F' ∧ Sh.Moves (With F a) w (With F' a) w' ∧ Jn S' d o' may ∧ (∀ k ∈ S'.disks, k.waits.length ≤ m)
theorem jns_goes {S' : Sh.Sf} {w' : World} {o' : Int} {m : Nat} (hG : Goes B W w w' a p d o' S' F) (hJ : Jn S' d o' may) (hm : ∀ k ∈ S'.disks, k.waits.length ≤ m) : Jns B W w w' a p d F m may := by
  obtain ⟨F', h1, h2⟩ := hG
  exact ⟨o', S', F', h1, h2, hJ, hm⟩
theorem blk40 (h : Jn S d o may) {k : Nat} (hk : k < 37) : k < blk S.sectors := by rw [h.one.forty]; exact hk
theorem wr_lens {S : Sh.Sf} {d n m : Nat} {b : Sh.Bs} (hL : ∀ k ∈ S.disks, k.waits.length ≤ m) : ∀ k ∈ (Wr S d n b).disks, k.waits.length ≤ m + 1 := by
  intro x hx
  unfold Wr at hx
  split at hx
  · have hx : x ∈ S.disks.set d ((S.disks.getD d default).write n b) := hx
    rcases List.mem_or_eq_of_mem_set hx with hk | rfl
    · have := hL x hk; omega
    · show ((S.disks.getD d default).waits ++ [(n, b)]).length ≤ m + 1
      rw [List.length_append]
      by_cases hd : d < S.disks.length
      · have := hL _ (Sh.getD_mem (l := S.disks) (d := d) hd)
        show _ + 1 ≤ m + 1
        omega
      · have e : S.disks.getD d default = default := by simp [List.getD, List.getElem?_eq_none (Nat.le_of_not_lt hd)]
        rw [e]
        show 0 + 1 ≤ m + 1
        omega
  · have := hL x hx; omega
theorem fl_lens {S : Sh.Sf} {d m : Nat} (hL : ∀ k ∈ S.disks, k.waits.length ≤ m) : ∀ k ∈ (Fl S d).disks, k.waits.length ≤ m := fun x hx => by
  have := fl_waits (m := m + 1) (d := d) (fun k hk => by have := hL k hk; omega) x hx
  omega
theorem write_jn (h : Dv B W w a p d o S F) (hT : Tabs W) (hTB : max 0 1 + 1 ≤ B) (hj : Jn S d o may) (k : Nat) (hk : k < 37) (b : Sh.Bs) {A : Option Addr} {c : Nat} {m : Nat}
    (hb : Sh.Sec b) (hA : Sh.Beside w (With F a) A b) (hL : ∀ k ∈ S.disks, k.waits.length ≤ m) (hm : m ≤ 1000000) :
    Calls Tryd.prog 30 #[.pointer (some ⟨a, 0, none⟩), .int .i64 k, .slice A 128 c] w fun e w' => (∃ y : Int, e = .returned (.int .i64 y)) ∧ Jns B W w w' a p d F (m + 2) (fun j => if j = k then may j ++ [b] else may j) := by
  by_cases hw : Sh.why S d = 0
  · refine (write_done h hT hTB k (blk40 hj hk) hj.one.lt hw b hb hA (fun k hk => by have := hL k hk; omega)).mono ?_
    rintro e w' ⟨b', o', _, _, rfl, h0, _, hG⟩
    have hon := hj.one.why0.mp hw
    have hg := hj.good hon k hk
    rw [hg] at h0 hG ⊢
    have hv := V_sec h.on.shelf hj.one.lt (n := dataOf k) (by rw [hj.one.forty]; exact (sum_of_lt (n := 40) hk).1)
    refine ⟨⟨_, rfl⟩, jns_goes hG (hj.write hon k hk b b' hb.2 hv.2 h0) ?_⟩
    refine wr_lens (m := m + 1) (fl_lens ?_)
    refine wr_lens ?_
    have e : ∀ s x, spIf (flIf (Looked S d) d o k) d k true s x b' = flIf (Looked S d) d o k := fun s x => by unfold spIf; rw [if_neg (fun h => by simp at h)]
    rw [e]
    have hlk : ∀ k ∈ (Looked S d).disks, k.waits.length ≤ m := by rw [looked_disks]; exact hL
    unfold flIf
    split
    · exact fl_lens hlk
    · exact hlk
  · refine (write_why h k (blk40 hj hk) hj.one.lt hw A c).mono ?_
    rintro e w' ⟨rfl, hb⟩
    refine ⟨⟨_, rfl⟩, o, S, F, h.grown hb, moves_below hb, hj.off_write (fun e => hw (hj.one.why0.mpr e)) k b o, fun k hk => by have := hL k hk; omega⟩
theorem flush_jn (h : Dv B W w a p d o S F) (hj : Jn S d o may) {m : Nat} (hL : ∀ k ∈ S.disks, k.waits.length ≤ m) (hm : m ≤ 1000000) :
    Calls Tryd.prog 31 #[.pointer (some ⟨a, 0, none⟩)] w fun e w' => ∃ y : Int, e = .returned (.int .i64 y) ∧ (y = 0 ∨ y = 3) ∧ Jns B W w w' a p d F m (fun j => if y = 0 then (may j).drop ((may j).length - 1) else may j) := by
  refine (flush_dev h hj.one.lt (fun k hk => by have := hL k hk; omega)).mono ?_
  rintro e w' ⟨rfl, hG⟩
  refine ⟨Sh.why S d, rfl, ?_, jns_goes hG hj.flush (fl_lens hL)⟩
  rw [hj.one.why]
  split
  · exact .inr rfl
  · exact .inl rfl
end
end Go.Proofs.YtjdjpafnakhpcaaDoor.U
namespace Go.Proofs.YtjdjpafnakhpcaaDoor.Sh
open Go.RowKit Go.Maps

/-- n texts in a block, c cells that may be written. -/
structure Mids (w : World) (g off n c : Nat) (l : List Bs) : Prop where
  len : l.length = n
  le : n ≤ c
  lt : g < w.heap.size
  there : ∀ j, j < c → (w.cell? ⟨g, off + j, none⟩).isSome = true
  free : ∀ j, j < c → w.frozen? ⟨g, off + j, none⟩ = false
  at_ : ∀ j, j < n → w.cell? ⟨g, off + j, none⟩ = some (sv (l.getD j []))
theorem Mids.same {w w' : World} {g off n c : Nat} {l : List Bs} (h : Mids w g off n c l) (hb : w'.heap[g]? = w.heap[g]?) (hs : w.heap.size ≤ w'.heap.size) : Mids w' g off n c l :=
  ⟨h.len, h.le, Nat.lt_of_lt_of_le h.lt hs, fun j hj => by rw [World.cell?_of_block (w := w) hb]; exact h.there j hj, fun j hj => by rw [World.frozen?_of_block (w := w) hb]; exact h.free j hj, fun j hj => by rw [World.cell?_of_block (w := w) hb]; exact h.at_ j hj⟩
theorem Mids.last {w : World} {g off n c : Nat} {l : List Bs} (h : Mids w g off n c l) (hn : 0 < n) : Mids w g (off + (n - 1)) 1 (c - (n - 1)) [l.getD (n - 1) []] := by
  refine ⟨rfl, by have := h.le; omega, h.lt, fun j hj => ?_, fun j hj => ?_, fun j hj => ?_⟩
  · rw [Nat.add_assoc]; exact h.there _ (by omega)
  · rw [Nat.add_assoc]; exact h.free _ (by omega)
  · obtain rfl : j = 0 := by omega
    exact h.at_ (n - 1) (by omega)
theorem getD_snoc_oldS (l : List Bs) (x : Bs) (j : Nat) (h : j < l.length) : (l ++ [x]).getD j [] = l.getD j [] := by simp [List.getD, List.getElem?_append_left h]
theorem getD_snoc_newS (l : List Bs) (x : Bs) : (l ++ [x]).getD l.length [] = x := by simp [List.getD]
theorem zero_cells_S (k i : Nat) (h : i < k) : ∃ u, (Builtin.zeroCells #[Value.string ⟨#[]⟩] k)[i]? = some u := ⟨_, Array.getElem?_eq_getElem (by simp [Builtin.zeroCells]; exact h)⟩
theorem info_str : (Tryd.prog.info? 9).map (fun i => (i.zero, i.size, i.bytes)) = some (some (.string ⟨#[]⟩), 1, 16) := by kernel_rfl
set_option maxRecDepth 20000 in
theorem run_append_mids (ty : TypeId) {w : World} {g off n c cc : Nat} {x : Bs} {l : List Bs} (h : Mids w g off n c l) {ad : Addr} (hx : w.cell? ad = some (sv x)) (hn : n ≤ 100000) :
    ∃ g' off' c' w', (Builtin.append_ #[43, 43] ty #[.slice (some ⟨g, off, none⟩) n c, .slice (some ad) 1 cc]).run Tryd.prog w = .ok (.slice (some ⟨g', off', none⟩) (n + 1) c') w' ∧ Mids w' g' off' (n + 1) c' (l ++ [x]) ∧ w.grownBy w' (some g) ∧ (g' = g ∨ g' = w.heap.size) := by
  obtain ⟨i, hi, hz, hsz, hby⟩ := info_parts info_str
  have hadd : ad.add 0 = ad := by unfold Addr.add; simp
  have hs : Src Tryd.prog i.size 43 (.slice (some ad) 1 cc) 1 [sv x] w := by
    rw [hsz]
    refine Src.ofSlice w Tryd.underlying43 ad 1 cc _ rfl (fun j u hu => ?_) (fun u hu => by simp at hu; subst hu; rfl)
    match j, hu with
    | 0, hu => rw [hadd, hx]; exact hu
  by_cases hr : n + 1 ≤ c
  · refine ⟨g, off, c, _, run_append_room_src w _ _ ty _ i Tryd.underlying43 hi g off n c _ 1 _ hs hr (fun j hj => ?_) (fun j hj => ?_), ?_, ?_, .inl rfl⟩
    · rw [hsz]
      obtain rfl : j = 0 := by simpa using hj
      rw [Nat.mul_one]; exact h.there n (by omega)
    · rw [hsz]
      obtain rfl : j = 0 := by simpa using hj
      rw [Nat.mul_one]; exact h.free n (by omega)
    · rw [hsz]
      have hin : ∀ j, j < ([sv x]).length → (w.cell? ⟨g, off + n * 1 + j, none⟩).isSome = true := fun j hj => by
        obtain rfl : j = 0 := by simpa using hj
        rw [Nat.mul_one]; exact h.there n (by omega)
      refine ⟨by simp [h.len], hr, ?_, fun j hj => World.isSome_setCells _ _ _ _ _ (h.there j hj), fun j hj => by rw [World.frozen?_setCells]; exact h.free j hj, fun j hj => ?_⟩
      · have := World.block_lt_of_cell? (w.setCells g (off + n * 1) [sv x]) _ (World.cell?_setCells_in g _ _ w hin 0 (by simp))
        exact this
      · by_cases e : j = n
        · subst e
          rw [← h.len, getD_snoc_newS, h.len]
          have := World.cell?_setCells_in g _ _ w hin 0 (by simp)
          simpa using this
        · rw [World.cell?_setCells_out g _ _ w _ (fun _ _ => .inl (by show off + j < off + n * 1; omega)), h.at_ j (by omega), getD_snoc_oldS _ _ _ (by rw [h.len]; omega)]
    · rw [hsz]
      show w.grownBy (w.setCell ⟨g, off + n * 1, none⟩ (sv x)) (some g)
      have hO : Only (fun b => b = g) w (w.setCell ⟨g, off + n * 1, none⟩ (sv x)) := (Only.refl (fun b => b = g) w).setCell (p := ⟨g, off + n * 1, none⟩) (.inl rfl) _
      exact ⟨hO.os, hO.tape, hO.output, hO.size, fun k _ hk => heap_set_other w ⟨g, off + n * 1, none⟩ _ (fun e => hk (by rw [e]))⟩
  · have hcn : c = n := by have := h.le; omega
    subst hcn
    have hold : (Builtin.firstCells i.size c (.slice (some ⟨g, off, none⟩) c c)).run Tryd.prog w.drew = .ok ((l.map sv)).toArray w.drew := by
      rw [hsz]
      refine run_firstCells_some w.drew 1 c ⟨g, off, none⟩ c c ((l.map sv)) (by rw [List.length_map, h.len, Nat.mul_one]) (fun j v hv => ?_)
      have hj : j < l.length := by
        rcases Nat.lt_or_ge j l.length with h | h
        · exact h
        · rw [List.getElem?_eq_none (by simpa using h)] at hv; cases hv
      rw [sv_at hj] at hv
      rw [Addr.add_mid]
      exact (h.at_ j (by rw [← h.len]; exact hj)).trans hv
    have hg := grownCap_ge w (c + 1) c 9
    refine ⟨w.heap.size, 0, _, _, run_append_grow_src w _ _ ty _ i _ Tryd.underlying43 hi hz (some ⟨g, off, none⟩) c c ((l.map sv)) hold _ 1 _ hs (by omega) (by omega) (by rw [hby]; have := nextslicecap_le (need := c + 1) (old := c) (by omega); omega), ?_, ?_, .inr rfl⟩
    · generalize hG : grownCap w (c + 1) c 9 = G at *
      have hrow : (w.drew.alloc (.cells (((l.map sv) ++ [sv x]).toArray ++ Builtin.zeroCells (Value.string ⟨#[]⟩).cells (G - (c + 1))) 9)).heap[w.heap.size]? = _ := heap_alloc_new w.drew _
      have hlen : ((l.map sv) ++ [sv x]).toArray.size = c + 1 := by simp [h.len]
      have hat : ∀ j, j < c + 1 → (((l.map sv) ++ [sv x]).toArray ++ Builtin.zeroCells (Value.string ⟨#[]⟩).cells (G - (c + 1)))[j]? = some (sv ((l ++ [x]).getD j [])) := fun j hj => by
        rw [Array.getElem?_append_left (by rw [hlen]; exact hj)]
        have e : (l.map sv) ++ [sv x] = (l ++ [x]).map sv := by simp
        rw [e, List.getElem?_toArray]
        exact sv_at (by simp [h.len]; omega)
      refine ⟨by simp [h.len], hg, by simp, fun j hj => ?_, fun j _ => frozen_of_row _ _ _ _ _ hrow, fun j hj => ?_⟩
      · rw [Nat.zero_add, cell_of_row _ _ j _ _ _ hrow]
        by_cases hjc : j < c + 1
        · rw [hat j hjc]; rfl
        · rw [Array.getElem?_append_right (by rw [hlen]; omega), hlen]
          obtain ⟨u, hu⟩ := zero_cells_S (G - (c + 1)) (j - (c + 1)) (by omega)
          exact (congrArg Option.isSome hu).trans rfl
      · rw [Nat.zero_add, cell_of_row _ _ j _ _ _ hrow]
        exact hat j hj
    · exact ⟨rfl, rfl, rfl, by simp, fun k hk _ => heap_alloc_old w.drew _ hk⟩
theorem wpList_append_mids {ops : Array Oper} {rest : List Oper} {o : Oper} {a : Act} {Q : Exit → Act → World → Prop} {w : World} (hgd : o.guard = none) (s x : Operand)
    (ho : o.op = .call { callee := .builtin .append, args := #[s, x], argTypes := #[43, 43] })
    {g off n c cc : Nat} {b : Bs} {l : List Bs} {ad : Addr} (hs : a.eval s = .slice (some ⟨g, off, none⟩) n c) (hx : a.eval x = .slice (some ad) 1 cc) (h : Mids w g off n c l) (hb : w.cell? ad = some (sv b)) (hn : n ≤ 100000)
    (H : Nat) (hH : w.heap.size = H)
    (hk : ∀ g' off' c' w', Mids w' g' off' (n + 1) c' (l ++ [b]) → w.grownBy w' (some g) → (g' = g ∨ g' = H) → wpList Tryd.prog ops Q rest (a.put o.dst (.slice (some ⟨g', off', none⟩) (n + 1) c')) w') : wpList Tryd.prog ops Q (o :: rest) a w := by
  refine wpList_plain hgd fun K hK => ?_
  obtain ⟨g', off', c', w', hr, h2, h3, h4⟩ := run_append_mids (cc := cc) o.type h hb hn
  unfold Oper.wp execOp
  simp only [ho, resolve, invoke, builtin, Sem.run_bind, Sem.run_pure, Result.andThen_ok, List.map_toArray, List.map_cons, List.map_nil, hs, hx, hr]
  exact hK _ _ (hk g' off' c' w' h2 h3 (by rw [← hH]; exact h4))
end Go.Proofs.YtjdjpafnakhpcaaDoor.Sh
namespace Go.Proofs.YtjdjpafnakhpcaaDoor.U
open Go.RowKit Go.Maps

/-- What each block may have, as the statement keeps it: a row of slices, those of P filled, each in the midst of a block of its own. -/
structure MayIs (w : World) (B q : Nat) (G : Nat → Prop) (P : Nat → Prop) (may : Nat → List Sh.Bs) (g off c : Nat → Nat) : Prop where
  small : ∀ k, P k → k < 37
  low : B ≤ q
  lt : q < w.heap.size
  there : ∀ k, k < 37 → (w.cell? ⟨q, k, none⟩).isSome = true
  free : ∀ k, k < 37 → w.frozen? ⟨q, k, none⟩ = false
  cells : ∀ k, P k → w.cell? ⟨q, k, none⟩ = some (.slice (some ⟨g k, off k, none⟩) (may k).length (c k))
  mid : ∀ k, P k → Sh.Mids w (g k) (off k) (may k).length (c k) (may k)
  glow : ∀ k, P k → B ≤ g k
  gne : ∀ k, P k → g k ≠ q
  inj : ∀ i j, P i → P j → g i = g j → i = j
  outq : ¬ G q
  outg : ∀ k, P k → ¬ G (g k)
def May (w : World) (B q : Nat) (G : Nat → Prop) (P : Nat → Prop) (may : Nat → List Sh.Bs) : Prop := ∃ g off c, MayIs w B q G P may g off c
section
variable {w w' : World} {B q : Nat} {G G' P P' : Nat → Prop} {may : Nat → List Sh.Bs} {g off c : Nat → Nat}
theorem MayIs.same (h : MayIs w B q G P may g off c) (hP : ∀ k, P' k → P k) (hq : w'.heap[q]? = w.heap[q]?) (hg : ∀ k, P' k → w'.heap[g k]? = w.heap[g k]?) (hs : w.heap.size ≤ w'.heap.size) (hG : ∀ b, G' b → G b ∨ w.heap.size ≤ b) : MayIs w' B q G' P' may g off c := by
  refine ⟨fun k hk => h.small k (hP k hk), h.low, Nat.lt_of_lt_of_le h.lt hs, fun k hk => by rw [World.cell?_of_block (w := w) hq]; exact h.there k hk, fun k hk => by rw [World.frozen?_of_block (w := w) hq]; exact h.free k hk, fun k hk => by rw [World.cell?_of_block (w := w) hq]; exact h.cells k (hP k hk), fun k hk => (h.mid k (hP k hk)).same (hg k hk) hs, fun k hk => h.glow k (hP k hk), fun k hk => h.gne k (hP k hk), fun i j hi hj => h.inj i j (hP i hi) (hP j hj), fun e => ?_, fun k hk e => ?_⟩
  · rcases hG q e with e | e
    · exact h.outq e
    · exact Nat.lt_irrefl _ (Nat.lt_of_lt_of_le h.lt e)
  · rcases hG _ e with e | e
    · exact h.outg k (hP k hk) e
    · exact Nat.lt_irrefl _ (Nat.lt_of_lt_of_le (h.mid k (hP k hk)).lt e)
theorem MayIs.moves (h : MayIs w B q G P may g off c) (m : Sh.Moves G w G' w') : MayIs w' B q G' P may g off c :=
  h.same (fun _ hk => hk) (m.1.block q h.lt h.outq) (fun k hk => m.1.block _ (h.mid k hk).lt (h.outg k hk)) m.1.size m.2
theorem MayIs.grown (h : MayIs w B q G P may g off c) (hb : Below w.heap.size w w') : MayIs w' B q G P may g off c :=
  h.same (fun _ hk => hk) (hb.block q h.lt) (fun k hk => hb.block _ (h.mid k hk).lt) hb.size (fun _ e => .inl e)
/-- One slice is laid. -/
theorem MayIs.put (h : MayIs w B q G P may g off c) {k g' off' c' : Nat} {l : List Sh.Bs} (hk : k < 37) (hm : Sh.Mids w g' off' l.length c' l) (hlow : B ≤ g') (hne : g' ≠ q) (hap : ∀ j, P j → j ≠ k → g j ≠ g') (hout : ¬ G g') (hP : ∀ j, P' j → P j ∨ j = k) :
    May (w.setCell ⟨q, k, none⟩ (.slice (some ⟨g', off', none⟩) l.length c')) B q G P' (fun j => if j = k then l else may j) := by
  have hb : ∀ x, x ≠ q → (w.setCell ⟨q, k, none⟩ (.slice (some ⟨g', off', none⟩) l.length c')).heap[x]? = w.heap[x]? := fun x hx => heap_setCell_other w ⟨q, k, none⟩ x _ hx
  have hsz : w.heap.size ≤ (w.setCell ⟨q, k, none⟩ (.slice (some ⟨g', off', none⟩) l.length c')).heap.size := by simp
  have hself : (w.setCell ⟨q, k, none⟩ (.slice (some ⟨g', off', none⟩) l.length c')).cell? ⟨q, k, none⟩ = some (.slice (some ⟨g', off', none⟩) l.length c') := World.cell?_setCell_same' _ _ _ (h.there k hk)
  have hoth : ∀ j, j ≠ k → (w.setCell ⟨q, k, none⟩ (.slice (some ⟨g', off', none⟩) l.length c')).cell? ⟨q, j, none⟩ = w.cell? ⟨q, j, none⟩ := fun j hj => World.cell?_setCell_other _ _ _ _ (fun e => hj (by injection e with _ e _; exact e.symm))
  refine ⟨fun j => if j = k then g' else g j, fun j => if j = k then off' else off j, fun j => if j = k then c' else c j, fun j hj => ?_, h.low, Nat.lt_of_lt_of_le h.lt hsz, fun j hj => ?_, fun j hj => ?_, fun j hj => ?_, fun j hj => ?_, fun j hj => ?_, fun j hj => ?_, fun i j hi hj e => ?_, h.outq, fun j hj => ?_⟩
  · rcases hP j hj with h1 | h1
    · exact h.small j h1
    · omega
  · by_cases e : j = k
    · rw [e, hself]; rfl
    · rw [hoth j e]; exact h.there j hj
  · rw [World.frozen?_setCell]; exact h.free j hj
  · by_cases e : j = k
    · subst e; rw [hself]; simp
    · rw [hoth j e]; simp only [e, if_false]; exact h.cells j ((hP j hj).resolve_right e)
  · by_cases e : j = k
    · subst e; simp only [if_true]; exact hm.same (hb _ hne) hsz
    · simp only [e, if_false]
      have h1 := (hP j hj).resolve_right e
      exact (h.mid j h1).same (hb _ (h.gne j h1)) hsz
  · by_cases e : j = k
    · simp only [e, if_true]; exact hlow
    · simp only [e, if_false]; exact h.glow j ((hP j hj).resolve_right e)
  · by_cases e : j = k
    · simp only [e, if_true]; exact hne
    · simp only [e, if_false]; exact h.gne j ((hP j hj).resolve_right e)
  · by_cases e1 : i = k <;> by_cases e2 : j = k
    · rw [e1, e2]
    · simp only [e1, e2, if_true, if_false] at e
      exact absurd e.symm (hap j ((hP j hj).resolve_right e2) e2)
    · simp only [e1, e2, if_true, if_false] at e
      exact absurd e (hap i ((hP i hi).resolve_right e1) e1)
    · simp only [e1, e2, if_false] at e
      exact h.inj i j ((hP i hi).resolve_right e1) ((hP j hj).resolve_right e2) e
  · by_cases e : j = k
    · simp only [e, if_true]; exact hout
    · simp only [e, if_false]; exact h.outg j ((hP j hj).resolve_right e)
/-- One more is put behind those of a block. -/
theorem MayIs.append (h : MayIs w B q G P may g off c) {k g' off' c' : Nat} {b : Sh.Bs} (hk : P k) (hg : w.grownBy w' (some (g k))) (hm : Sh.Mids w' g' off' ((may k).length + 1) c' (may k ++ [b])) (ho : g' = g k ∨ g' = w.heap.size) (hB : B ≤ w.heap.size) (hG : ∀ b, G b → b < w.heap.size) :
    May (w'.setCell ⟨q, k, none⟩ (.slice (some ⟨g', off', none⟩) ((may k).length + 1) c')) B q G P (fun j => if j = k then may j ++ [b] else may j) := by
  have hb : ∀ x, x < w.heap.size → x ≠ g k → w'.heap[x]? = w.heap[x]? := fun x hx hn => hg.block x hx (fun e => hn (by injection e))
  have h1 : MayIs w' B q G (fun j => P j ∧ j ≠ k) may g off c := h.same (fun _ hj => hj.1) (hb q h.lt (Ne.symm (h.gne k hk))) (fun j hj => hb _ (h.mid j hj.1).lt (fun e => hj.2 (h.inj j k hj.1 hk e))) hg.size (fun _ e => .inl e)
  have e : (fun j => if j = k then may j ++ [b] else may j) = (fun j => if j = k then may k ++ [b] else may j) := by
    funext j
    by_cases e : j = k
    · rw [if_pos e, if_pos e, e]
    · rw [if_neg e, if_neg e]
  rw [e]
  have hl : (may k).length + 1 = (may k ++ [b]).length := by simp
  rw [hl] at hm ⊢
  refine h1.put (h.small k hk) hm ?_ ?_ ?_ ?_ (fun j hj => ?_)
  · rcases ho with e | e
    · rw [e]; exact h.glow k hk
    · rw [e]; exact hB
  · rcases ho with e | e
    · rw [e]; exact h.gne k hk
    · rw [e]; exact Nat.ne_of_gt h.lt
  · intro j hj hjk e2
    rcases ho with e | e
    · exact hjk (h.inj j k hj.1 hk (e2.trans e))
    · have := (h.mid j hj.1).lt
      omega
  · intro hG'
    rcases ho with e | e
    · exact h.outg k hk (e ▸ hG')
    · have := hG _ hG'; omega
  · by_cases e : j = k
    · exact .inr e
    · exact .inl ⟨hj, e⟩
/-- Only the last one of a block is kept. -/
theorem MayIs.trim (h : MayIs w B q G P may g off c) {k : Nat} (hk : P k) (h0 : 0 < (may k).length) :
    May (w.setCell ⟨q, k, none⟩ (.slice (some ⟨g k, off k + ((may k).length - 1), none⟩) 1 (c k - ((may k).length - 1)))) B q G P (fun j => if j = k then (may j).drop ((may j).length - 1) else may j) := by
  have e : (fun j => if j = k then (may j).drop ((may j).length - 1) else may j) = (fun j => if j = k then [(may k).getD ((may k).length - 1) []] else may j) := by
    funext j
    by_cases e : j = k
    · rw [if_pos e, if_pos e, e]
      generalize may k = l at *
      rcases Sh.snoc_cases l with rfl | ⟨t, x, rfl⟩
      · exact absurd h0 (by simp)
      · simp [List.getD]
    · rw [if_neg e, if_neg e]
  rw [e]
  exact h.put (h.small k hk) (l := [(may k).getD ((may k).length - 1) []]) ((h.mid k hk).last h0) (h.glow k hk) (h.gne k hk) (fun j hj hjk e => hjk (h.inj j k hj hk e)) (h.outg k hk) (fun j hj => .inl hj)
end
end Go.Proofs.YtjdjpafnakhpcaaDoor.U
namespace Go.Proofs.YtjdjpafnakhpcaaDoor.U
open Go.ChangeShapes Go.WideShapes Go.ChangeAt Go.RowKit Go.Maps

theorem info_strs : (Tryd.prog.info? 43).map (fun i => (i.zero, i.size, i.bytes)) = some (some (.slice none 0 0), 1, 24) := by kernel_rfl
theorem may_new {w w' : World} {B : Nat} {G : Nat → Prop} {t : TypeId} {xs : List Value} (may : Nat → List Sh.Bs) (hB : B ≤ w.heap.size) (hG : ∀ b, G b → b < w.heap.size) (h : w'.ownsRow w.heap.size t 1 (.slice (some ⟨w.heap.size, 0, none⟩) 37 37) 37 xs) :
    May w' B w.heap.size G (fun _ => False) may := by
  obtain ⟨_, h⟩ := h
  rcases h with ⟨h, _⟩ | ⟨g, cap, cur, h, _, hrow, hle, _, hsz, _⟩
  · cases h
  · injection h with h1 h2 h3
    injection h1 with h1
    injection h1 with h1
    subst h1 h3
    refine ⟨fun _ => 0, fun _ => 0, fun _ => 0, fun _ h => h.elim, hB, (Array.getElem?_eq_some_iff.1 hrow).1, fun k hk => ?_, fun k _ => frozen_of_row _ _ _ _ _ hrow, fun _ h => h.elim, fun _ h => h.elim, fun _ h => h.elim, fun _ h => h.elim, fun _ _ h => h.elim, fun e => Nat.lt_irrefl _ (hG _ e), fun _ h => h.elim⟩
    rw [cell_of_row _ _ k _ _ _ hrow, Array.getElem?_eq_getElem (by omega)]
    rfl
theorem make37 (w : World) {B : Nat} {G : Nat → Prop} (may : Nat → List Sh.Bs) (hB : B ≤ w.heap.size) (hG : ∀ b, G b → b < w.heap.size) :
    ∃ w', (Instr.makeSlice 41 (.int .i64 37) (.int .i64 37)).run Tryd.prog w = .ok (.slice (some ⟨w.heap.size, 0, none⟩) 37 37) w' ∧ May w' B w.heap.size G (fun _ => False) may ∧ Below w.heap.size w w' := by
  obtain ⟨i1, ki, kz0, kz1, kz2⟩ := info_parts info_strs
  obtain ⟨w', hrun, r1, r2⟩ := run_make_full (P := Tryd.prog) w w.heap.size 41 43 i1 _ 1 Tryd.underlying41 ki kz0 kz1 .i64 .i64 37 (by rw [kz2]; omega) (by unfold maxLen; omega) (Nat.le_refl _)
  exact ⟨w', hrun, may_new may hB hG r1, (Below.refl _ w).grown r2 (Nat.le_refl _) (fun _ h => by cases h)⟩
theorem make128 (w : World) : ∃ w', (Instr.makeSlice 28 (.int .i64 128) (.int .i64 128)).run Tryd.prog w = .ok (.slice (some ⟨w.heap.size, 0, none⟩) 128 128) w' ∧ w'.ownsRow w.heap.size 5 1 (.slice (some ⟨w.heap.size, 0, none⟩) 128 128) 128 (bts Sh.noughts) ∧ Below w.heap.size w w' := by
  obtain ⟨i1, ki, kz0, kz1, kz2⟩ := info_parts (show (Tryd.prog.info? 5).map (fun i => (i.zero, i.size, i.bytes)) = some (some (.int .u8 0), 1, 1) by kernel_rfl)
  obtain ⟨w', hrun, r1, r2⟩ := run_make_full (P := Tryd.prog) w w.heap.size 28 5 i1 _ 1 Tryd.underlying28 ki kz0 kz1 .i64 .i64 128 (by rw [kz2]; omega) (by unfold maxLen; omega) (Nat.le_refl _)
  exact ⟨w', hrun, noughts_own r1, (Below.refl _ w).grown r2 (Nat.le_refl _) (fun _ h => by cases h)⟩
section
variable {w : World} {B q : Nat} {G P : Nat → Prop} {may : Nat → List Sh.Bs}
theorem May.grown {w' : World} (h : May w B q G P may) (hb : Below w.heap.size w w') : May w' B q G P may := by
  obtain ⟨g, off, c, h⟩ := h
  exact ⟨g, off, c, h.grown hb⟩
theorem May.moves {w' : World} {G' : Nat → Prop} (h : May w B q G P may) (m : Sh.Moves G w G' w') : May w' B q G' P may := by
  obtain ⟨g, off, c, h⟩ := h
  exact ⟨g, off, c, h.moves m⟩
/-- A slice of one text, made just now, is laid. -/
theorem May.fill {k : Nat} {b : Sh.Bs} (h : May w B q G (fun j => j < k) (fun _ => [b])) (hk : k < 37) (hB : B ≤ w.heap.size) (hG : ∀ b, G b → b < w.heap.size) (t : TypeId) :
    May ((w.alloc (.cells #[Sh.sv b] t)).setCell ⟨q, k, none⟩ (.slice (some ⟨w.heap.size, 0, none⟩) 1 1)) B q G (fun j => j < k + 1) (fun _ => [b]) := by
  obtain ⟨g, off, c, h⟩ := h
  have hlt := h.lt
  have hgl := fun j hj => (h.mid j hj).lt
  have hrow := heap_alloc_new w (.cells #[Sh.sv b] t)
  have h1 := h.grown ((Below.refl _ w).alloc (Nat.le_refl _) (.cells #[Sh.sv b] t))
  have e : (fun _ => [b] : Nat → List Sh.Bs) = fun j => if j = k then [b] else [b] := by funext j; simp
  rw [e]
  refine h1.put (l := [b]) hk ⟨rfl, Nat.le_refl _, by simp, fun j hj => ?_, fun j _ => frozen_of_row _ _ _ _ _ hrow, fun j hj => ?_⟩ hB (Nat.ne_of_gt hlt) (fun j hj _ => Nat.ne_of_lt (hgl j hj)) (fun e => Nat.lt_irrefl _ (hG _ e)) (fun j hj => by have hj : j < k + 1 := hj; by_cases e : j = k; exact .inr e; exact .inl (by omega))
  · obtain rfl : j = 0 := by omega
    rw [cell_of_row _ _ (0 + 0) _ _ _ hrow]; rfl
  · obtain rfl : j = 0 := by have : ([b] : List Sh.Bs).length = 1 := rfl; omega
    rw [cell_of_row _ _ (0 + 0) _ _ _ hrow]; rfl
end
/-- The disk's blocks, their shelf, and the table beside them. -/
def Bag (W w : World) (a p q : Nat) (o : Int) (S : Sh.Sf) (P : Nat → Prop) (may : Nat → List Sh.Bs) : Prop := ∃ F, Dv W.heap.size W w a p 0 o S F ∧ May w W.heap.size q (With F a) P may
theorem Bag.grown {W w w' : World} {a p q : Nat} {o : Int} {S : Sh.Sf} {P : Nat → Prop} {may : Nat → List Sh.Bs} (h : Bag W w a p q o S P may) (hb : Below w.heap.size w w') : Bag W w' a p q o S P may := by
  obtain ⟨F, D, M⟩ := h
  exact ⟨F, D.grown hb, M.grown hb⟩
theorem Bag.cell {W w : World} {a p q : Nat} {o : Int} {S : Sh.Sf} {P : Nat → Prop} {may : Nat → List Sh.Bs} (h : Bag W w a p q o S P may) {k : Nat} (hk : k < 37) : (∃ v, w.cell? ⟨q, k, none⟩ = some v) ∧ w.frozen? ⟨q, k, none⟩ = false := by
  obtain ⟨F, D, g, off, c, M⟩ := h
  exact ⟨Option.isSome_iff_exists.1 (M.there k hk), M.free k hk⟩
theorem Bag.fill {W w : World} {a p q k : Nat} {o : Int} {S : Sh.Sf} {b : Sh.Bs} (h : Bag W w a p q o S (fun j => j < k) (fun _ => [b])) (hk : k < 37) (t : TypeId) :
    Bag W ((w.alloc (.cells #[Sh.sv b] t)).setCell ⟨q, k, none⟩ (.slice (some ⟨w.heap.size, 0, none⟩) 1 1)) a p q o S (fun j => j < k + 1) (fun _ => [b]) := by
  obtain ⟨F, D, M⟩ := h
  have h1 := M.fill hk D.on.size (with_lt D) t
  obtain ⟨g, off, c, M⟩ := M
  exact ⟨F, dv_over (D.grown ((Below.refl _ w).alloc (Nat.le_refl _) _)) (Sh.Only.setCell (F := fun b => b = q) (p := ⟨q, k, none⟩) (Sh.Only.refl _ _) (.inl (show q = q from rfl)) _) M.outq M.low, h1⟩
end Go.Proofs.YtjdjpafnakhpcaaDoor.U
namespace Go.Proofs.YtjdjpafnakhpcaaDoor.U
open Go.RowKit Go.Maps
/-- What a round of the statement finds. -/
def Bag2 (W w : World) (a p q k : Nat) : Prop := ∃ o S may, Bag W w a p q o S (fun j => j < 37) may ∧ Jn S 0 o may ∧ (∀ x ∈ S.disks, x.waits.length ≤ 2 * k) ∧ ∀ j, j < 37 → may j ≠ [] ∧ (may j).length ≤ k + 1
theorem Bag2.next {W w : World} {a p q k : Nat} (h : Bag2 W w a p q k) : Bag2 W w a p q (k + 1) := by
  obtain ⟨o, S, may, h1, h2, h3, h4⟩ := h
  exact ⟨o, S, may, h1, h2, fun x hx => by have := h3 x hx; omega, fun j hj => ⟨(h4 j hj).1, by have := (h4 j hj).2; omega⟩⟩
end Go.Proofs.YtjdjpafnakhpcaaDoor.U
namespace Go.Proofs.YtjdjpafnakhpcaaDoor.U
open Go.ChangeShapes Go.WideShapes Go.ChangeAt Go.RowKit Go.Maps
theorem wp_append_mids {o : Oper} {a : Act} {w : World} {K : Act → World → Prop} {Q : Exit → Act → World → Prop} (s x : Operand)
    (ho : o.op = .call { callee := .builtin .append, args := #[s, x], argTypes := #[43, 43] })
    {g off n c cc : Nat} {b : Sh.Bs} {l : List Sh.Bs} {ad : Addr} (hs : a.eval s = .slice (some ⟨g, off, none⟩) n c) (hx : a.eval x = .slice (some ad) 1 cc) (h : Sh.Mids w g off n c l) (hb : w.cell? ad = some (Sh.sv b)) (hn : n ≤ 100000)
    (hk : ∀ g' off' c' w', Sh.Mids w' g' off' (n + 1) c' (l ++ [b]) → w.grownBy w' (some g) → (g' = g ∨ g' = w.heap.size) → K (a.put o.dst (.slice (some ⟨g', off', none⟩) (n + 1) c')) w') : Oper.wp Tryd.prog o a w K Q := by
  obtain ⟨g', off', c', w', hr, h2, h3, h4⟩ := Sh.run_append_mids (cc := cc) o.type h hb hn
  unfold Oper.wp execOp
  simp only [ho, resolve, invoke, builtin, Sem.run_bind, Sem.run_pure, Result.andThen_ok, List.map_toArray, List.map_cons, List.map_nil, hs, hx, hr]
  exact hk g' off' c' w' h2 h3 h4
theorem Bag.append {W w w' : World} {a p q : Nat} {o : Int} {S : Sh.Sf} {F : Nat → Prop} {may : Nat → List Sh.Bs} {g off c : Nat → Nat} (D : Dv W.heap.size W w a p 0 o S F) (M : MayIs w W.heap.size q (With F a) (fun j => j < 37) may g off c)
    {k g' off' c' : Nat} {b : Sh.Bs} (hk : k < 37) (hg : w.grownBy w' (some (g k))) (hm : Sh.Mids w' g' off' ((may k).length + 1) c' (may k ++ [b])) (ho : g' = g k ∨ g' = w.heap.size) :
    Bag W (w'.setCell ⟨q, k, none⟩ (.slice (some ⟨g', off', none⟩) ((may k).length + 1) c')) a p q o S (fun j => j < 37) (fun j => if j = k then may j ++ [b] else may j) := by
  have hO : Sh.Only (fun b => b = g k) w w' := ⟨hg.os, hg.tape, hg.output, hg.size, fun k hk hn => hg.block k hk (fun e => hn (by injection e))⟩
  have D1 := dv_over D hO (M.outg k hk) (M.glow k hk)
  exact ⟨F, dv_over D1 (Sh.Only.setCell (F := fun b => b = q) (p := ⟨q, k, none⟩) (Sh.Only.refl _ _) (.inl (show q = q from rfl)) _) M.outq M.low, M.append hk hg hm ho D.on.size (with_lt D)⟩
theorem grow_len {may : Nat → List Sh.Bs} {k m : Nat} {b : Sh.Bs} (h : ∀ j, j < 37 → may j ≠ [] ∧ (may j).length ≤ m) : ∀ j, j < 37 → (fun j => if j = k then may j ++ [b] else may j) j ≠ [] ∧ ((fun j => if j = k then may j ++ [b] else may j) j).length ≤ m + 1 := by
  intro j hj
  have := h j hj
  dsimp only
  split
  · exact ⟨by simp, by simp; omega⟩
  · exact ⟨this.1, by omega⟩
theorem cell_at12 {w w' : World} {B q : Nat} {G : Nat → Prop} {may : Nat → List Sh.Bs} {g off c : Nat → Nat} (M : MayIs w B q G (fun j => j < 37) may g off c) {k : Nat} (hk : k < 37) (hg : w.grownBy w' (some (g k))) :
    w'.cell? ⟨q, k, none⟩ = some (.slice (some ⟨g k, off k, none⟩) (may k).length (c k)) ∧ w'.frozen? ⟨q, k, none⟩ = false := by
  have hb : w'.heap[q]? = w.heap[q]? := hg.block q M.lt (fun e => by injection e with e; exact M.gne k hk e.symm)
  exact ⟨(World.cell?_of_block (w := w) (a := ⟨q, k, none⟩) hb).trans (M.cells k hk), (World.frozen?_of_block (w := w) (a := ⟨q, k, none⟩) hb).trans (M.free k hk)⟩
/-- The first j of them trimmed. -/
def trimTo (may : Nat → List Sh.Bs) (j : Nat) : Nat → List Sh.Bs := fun i => if i < j then (may i).drop ((may i).length - 1) else may i
theorem MayIs.congr {w : World} {B q : Nat} {G P : Nat → Prop} {may may' : Nat → List Sh.Bs} {g off c : Nat → Nat} (h : MayIs w B q G P may g off c) (he : ∀ j, P j → may j = may' j) : MayIs w B q G P may' g off c :=
  ⟨h.small, h.low, h.lt, h.there, h.free, fun k hk => by rw [← he k hk]; exact h.cells k hk, fun k hk => by rw [← he k hk]; exact h.mid k hk, h.glow, h.gne, h.inj, h.outq, h.outg⟩
theorem Bag.congr {W w : World} {a p q : Nat} {o : Int} {S : Sh.Sf} {P : Nat → Prop} {may may' : Nat → List Sh.Bs} (h : Bag W w a p q o S P may) (he : ∀ j, P j → may j = may' j) : Bag W w a p q o S P may' := by
  obtain ⟨F, D, g, off, c, M⟩ := h
  exact ⟨F, D, g, off, c, M.congr he⟩
theorem trim37 {may : Nat → List Sh.Bs} : ∀ j, j < 37 → trimTo may 37 j = (fun j => if (0 : Int) = 0 then (may j).drop ((may j).length - 1) else may j) j := by
  intro j hj
  unfold trimTo
  simp [hj]
theorem trim_len {may : Nat → List Sh.Bs} {m : Nat} (h : ∀ j, j < 37 → may j ≠ [] ∧ (may j).length ≤ m + 1) : ∀ j, j < 37 → (fun j => if (0 : Int) = 0 then (may j).drop ((may j).length - 1) else may j) j ≠ [] ∧ ((fun j => if (0 : Int) = 0 then (may j).drop ((may j).length - 1) else may j) j).length ≤ m + 1 + 1 := by
  intro j hj
  obtain ⟨h1, h2⟩ := h j hj
  have h0 : (may j).length ≠ 0 := fun e => h1 (List.eq_nil_of_length_eq_zero e)
  simp only [if_true]
  refine ⟨fun e => ?_, by rw [List.length_drop]; omega⟩
  have := congrArg List.length e
  rw [List.length_drop] at this
  simp at this
  omega
/-- One more is trimmed. -/
theorem Bag.trim {W w : World} {a p q : Nat} {o : Int} {S : Sh.Sf} {F : Nat → Prop} {may : Nat → List Sh.Bs} {g off c : Nat → Nat} {j : Nat} (D : Dv W.heap.size W w a p 0 o S F) (M : MayIs w W.heap.size q (With F a) (fun i => i < 37) (trimTo may j) g off c) (hj : j < 37) (h0 : 0 < (may j).length) :
    Bag W (w.setCell ⟨q, j, none⟩ (.slice (some ⟨g j, off j + ((may j).length - 1), none⟩) 1 (c j - ((may j).length - 1)))) a p q o S (fun i => i < 37) (trimTo may (j + 1)) := by
  have e : trimTo may j j = may j := by unfold trimTo; simp
  have h1 := M.trim (k := j) hj (by rw [e]; exact h0)
  rw [e] at h1
  have e2 : (fun i => if i = j then (trimTo may j i).drop ((trimTo may j i).length - 1) else trimTo may j i) = trimTo may (j + 1) := by
    funext i
    unfold trimTo
    by_cases hi : i = j
    · subst hi; simp
    · rw [if_neg hi]
      by_cases hl : i < j
      · rw [if_pos hl, if_pos (by omega)]
      · rw [if_neg hl, if_neg (by omega)]
  rw [e2] at h1
  exact ⟨F, dv_over D (Sh.Only.setCell (F := fun b => b = q) (p := ⟨q, j, none⟩) (Sh.Only.refl _ _) (.inl (show q = q from rfl)) _) M.outq M.low, h1⟩
/-- The table beside another disk's block, made just now. -/
theorem May.opened {w w' : World} {B q a a' : Nat} {F P : Nat → Prop} {may : Nat → List Sh.Bs} (h : May w B q (With F a) P may) (hb : Below w.heap.size w w') (ha : w.heap.size ≤ a') : May w' B q (With F a') P may := by
  refine h.moves ⟨(Sh.Only.refl _ w).trans ⟨hb.os, hb.tape, hb.output, hb.size, fun k hk _ => hb.block k hk⟩ (fun _ e => .inl e), fun b e => ?_⟩
  rcases e with e | e
  · exact .inl (.inl e)
  · exact .inr (by rw [e]; exact ha)
/-- Behind a crash: what the reads find. -/
def Fine (S : Sh.Sf) (may : Nat → List Sh.Bs) : Prop := Calm S 0 ∧ S.sectors = 40 ∧ ∀ k, k < 37 → goodAt S 0 k = true ∧ V S 0 (dataOf k) ∈ may k
theorem Fine.looked {S : Sh.Sf} {may : Nat → List Sh.Bs} (h : Fine S may) : Fine (Looked S 0) may := by
  refine ⟨h.1.looked 0, by rw [looked_sectors]; exact h.2.1, fun k hk => ?_⟩
  rw [good_same (looked_V S 0 0 _) (looked_V S 0 0 _), looked_V]
  exact h.2.2 k hk
def Bag4 (W w : World) (a p q : Nat) (may : Nat → List Sh.Bs) : Prop := ∃ S F, Dv W.heap.size W w a p 0 (-1) S F ∧ May w W.heap.size q (With F a) (fun j => j < 37) may ∧ Fine S may
theorem Bag4.grown {W w w' : World} {a p q : Nat} {may : Nat → List Sh.Bs} (h : Bag4 W w a p q may) (hb : Below w.heap.size w w') : Bag4 W w' a p q may := by
  obtain ⟨S, F, D, M, f⟩ := h
  exact ⟨S, F, D.grown hb, M.grown hb, f⟩
end Go.Proofs.YtjdjpafnakhpcaaDoor.U
