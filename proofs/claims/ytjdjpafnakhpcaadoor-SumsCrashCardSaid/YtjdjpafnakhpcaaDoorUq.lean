/-
  What a write of a block leaves, while the power stays on: plain facts, and the contract of Write over them.
  Conditions: each theorem's own.
-/
import Derived.Test.YtjdjpafnakhpcaaDoorUp
namespace Go.Proofs.YtjdjpafnakhpcaaDoor.U
open Go.RowKit Go.Maps

theorem wr_other (S : Sh.Sf) (d n : Nat) (b : Sh.Bs) {e : Nat} (h : e ≠ d) : (Wr S d n b).disks.getD e default = S.disks.getD e default := by
  unfold Wr
  split
  · show (S.disks.set d _).getD e default = _
    simp [List.getD, List.getElem?_set_ne (Ne.symm h)]
  · rfl
theorem fl_other (S : Sh.Sf) (d : Nat) {e : Nat} (h : e ≠ d) : (Fl S d).disks.getD e default = S.disks.getD e default := by
  unfold Fl
  split
  · show (S.disks.set d _).getD e default = _
    simp [List.getD, List.getElem?_set_ne (Ne.symm h)]
  · rfl
/-- One shelf behind another, where of one disk some sectors were written. -/
structure Over (S : Sh.Sf) (d : Nat) (N : Nat → Prop) (S' : Sh.Sf) : Prop where
  calm : Calm S' d
  sectors : S'.sectors = S.sectors
  len : S'.disks.length = S.disks.length
  same : ∀ n, n < S.sectors → ¬ N n → V S' d n = V S d n
  alike : ∀ e, e ≠ d → S'.disks.getD e default = S.disks.getD e default
section
variable {S S1 S2 : Sh.Sf} {d : Nat} {N N' : Nat → Prop}
theorem Over.refl (h : Calm S d) : Over S d N S := ⟨h, rfl, rfl, fun _ _ _ => rfl, fun _ _ => rfl⟩
theorem Over.trans (h : Over S d N S1) (k : Over S1 d N S2) : Over S d N S2 :=
  ⟨k.calm, k.sectors.trans h.sectors, k.len.trans h.len, fun n hn hN => (k.same n (by rw [h.sectors]; exact hn) hN).trans (h.same n hn hN), fun e he => (k.alike e he).trans (h.alike e he)⟩
theorem Over.mono (h : Over S d N S1) (hN : ∀ n, N n → N' n) : Over S d N' S1 := ⟨h.calm, h.sectors, h.len, fun n hn hN' => h.same n hn (fun e => hN' (hN n e)), h.alike⟩
theorem Over.looked (h : Calm S d) : Over S d N (Looked S d) :=
  ⟨h.looked d, looked_sectors S d, by rw [looked_disks], fun n _ _ => looked_V S d d n, fun e _ => by rw [looked_disks]⟩
theorem Over.wr (h : Calm S d) (n : Nat) (b : Sh.Bs) (hn : N n) : Over S d N (Wr S d n b) :=
  ⟨h.wr n b, wr_sectors S d n b, wr_length S d n b, fun m _ hm => by rw [h.V_wr, if_neg (fun (e : n = m) => hm (e ▸ hn))], fun _ he => wr_other S d n b he⟩
theorem Over.fl (h : Calm S d) : Over S d N (Fl S d) :=
  ⟨h.fl, fl_sectors S d, fl_length S d, fun m hm _ => h.V_fl m hm, fun _ he => fl_other S d he⟩
theorem Over.flIf (h : Calm S d) (o : Int) (k : Nat) : Over S d N (flIf S d o k) := by
  unfold U.flIf
  split
  · exact Over.fl h
  · exact Over.refl h
theorem Over.spIf (h : Calm S d) (k : Nat) (g : Bool) (s sum : Nat) (b : Sh.Bs) (hN : N (dataOf k)) : Over S d N (spIf S d k g s sum b) := by
  unfold U.spIf
  split
  · exact (Over.wr h (dataOf k) b hN).trans (Over.fl (h.wr _ _))
  · exact Over.refl h
end
/-- What a write of a block leaves. -/
structure Put (S : Sh.Sf) (d k : Nat) (b : Sh.Bs) (S' : Sh.Sf) : Prop where
  over : Over S d (fun n => n = sumOf k ∨ n = dataOf k) S'
  data : V S' d (dataOf k) = b
  sums : V S' d (sumOf k) = setPair (V S d (sumOf k)) k (first (goodAt S d k) (sumL d k (V S d (dataOf k))) (sumL d k b)) (sumL d k b)
  waits : (S'.disks.getD d default).waits = [(dataOf k, b)]
section
variable {S : Sh.Sf} {d : Nat}
theorem ready_over (h : Calm S d) (o : Int) (k : Nat) (hk : k < blk S.sectors) (b b' : Sh.Bs) :
    Over S d (fun n => n = sumOf k ∨ n = dataOf k) (Ready S d o k b b') ∧
    V (Ready S d o k b b') d (sumOf k) = setPair (V S d (sumOf k)) k (first (goodAt S d k) (sumL d k (V S d (dataOf k))) (sumL d k b)) (sumL d k b) ∧ ((Ready S d o k b b').disks.getD d default).waits = [] := by
  obtain ⟨hk1, hk2, _⟩ := sum_of_lt hk
  unfold Ready ReadyQ
  generalize goodAt S d k = g
  generalize sumL d k (V S d (dataOf k)) = s
  generalize sumL d k b = sum
  have h1 : Over S d (fun n => n = sumOf k ∨ n = dataOf k) (Looked S d) := Over.looked h
  have h2 := h1.trans (Over.flIf h1.calm o k)
  have h3 := h2.trans (Over.spIf h2.calm k g s sum b' (.inr rfl))
  generalize spIf (flIf (Looked S d) d o k) d k g s sum b' = S2 at *
  have h4 := h3.trans (Over.wr h3.calm (sumOf k) (setPair (V S d (sumOf k)) k (first g s sum) sum) (.inl rfl))
  have h5 := h4.trans (Over.fl h4.calm)
  refine ⟨h5, ?_, h4.calm.waits_fl⟩
  rw [h4.calm.V_fl _ (by rw [h4.sectors]; exact hk2), h3.calm.V_wr, if_pos rfl]
theorem put_done (h : Calm S d) (o : Int) (k : Nat) (hk : k < blk S.sectors) (b b' : Sh.Bs) : Put S d k b (Wr (Ready S d o k b b') d (dataOf k) b) := by
  obtain ⟨h1, h2, h3⟩ := ready_over h o k hk b b'
  obtain ⟨_, _, hne⟩ := sum_of_lt hk
  refine ⟨h1.trans (Over.wr h1.calm (dataOf k) b (.inr rfl)), ?_, ?_, ?_⟩
  · rw [h1.calm.V_wr, if_pos rfl]
  · rw [h1.calm.V_wr, if_neg (Ne.symm hne), h2]
  · rw [wr_getD _ _ _ _ h1.calm.lt h1.calm.why d, if_pos rfl]
    show ((Ready S d o k b b').disks.getD d default).waits ++ [(dataOf k, b)] = _
    rw [h3]
    rfl
theorem Put.good {k : Nat} {b : Sh.Bs} {S' : Sh.Sf} (h : Put S d k b S') (hl : (V S d (sumOf k)).length = 128) (hb : Small b) : goodAt S' d k = true := by
  unfold goodAt
  rw [h.data, h.sums]
  exact goodL_of (.inr (pr_set_1 hl (sumL_lt hb)).symm)
theorem Over.waits {N : Nat → Prop} {S' : Sh.Sf} {m : Nat} (h : Over S d N S') (hd : (S'.disks.getD d default).waits.length < m) (hL : ∀ k ∈ S.disks, k.waits.length < m) : ∀ k ∈ S'.disks, k.waits.length < m := by
  intro x hx
  obtain ⟨e, he, rfl⟩ := List.mem_iff_getElem.1 hx
  have e1 : S'.disks[e] = S'.disks.getD e default := by simp [List.getD, he]
  rw [e1]
  by_cases hed : e = d
  · rw [hed]; exact hd
  · rw [h.alike e hed]
    exact hL _ (Sh.getD_mem (by rw [← h.len]; exact he))
end
section
variable {B : Nat} {W w : World} {a p d : Nat} {o : Int} {S : Sh.Sf} {F : Nat → Prop}
theorem write_calm (h : Dv B W w a p d o S F) (hT : Tabs W) (hTB : max 0 1 + 1 ≤ B) (hc : Calm S d) (k : Nat) (hk : k < blk S.sectors) (b : Sh.Bs) {A : Option Addr} {c : Nat}
    (hb : Sh.Sec b) (hA : Sh.Beside w (With F a) A b) (hL : ∀ k ∈ S.disks, k.waits.length + 3 < 1099511627776) :
    Calls Tryd.prog 30 #[.pointer (some ⟨a, 0, none⟩), .int .i64 k, .slice A 128 c] w fun e w' => e = .returned (.int .i64 0) ∧ ∃ S', Put S d k b S' ∧ Goes B W w w' a p d k S' F := by
  refine (write_done h hT hTB k hk hc.lt hc.why b hb hA hL).mono ?_
  rintro e w' ⟨b', o', _, _, rfl, h0, _, hG⟩
  have hp := put_done hc o k hk b b'
  have hw : Sh.why (Ready S d o k b b') d = 0 := (ready_over hc o k hk b b').1.calm.why
  have hw' : Sh.why (ReadyQ (Looked S d) d o k (goodAt S d k) (sumL d k (V S d (dataOf k))) (sumL d k b) (V S d (sumOf k)) b') d = 0 := hw
  refine ⟨by rw [hw'], _, hp, ?_⟩
  rw [← h0 hw']
  exact hG
/-- Writes that come so may be followed by others. -/
theorem Put.small {k : Nat} {b : Sh.Bs} {S' : Sh.Sf} (h : Put S d k b S') (hL : ∀ k ∈ S.disks, k.waits.length + 3 < 1099511627776) : ∀ k ∈ S'.disks, k.waits.length + 3 < 1099511627776 := by
  intro x hx
  have := h.over.waits (m := 1099511627773) (by rw [h.waits]; show 1 < 1099511627773; decide) (fun k hk => by have := hL k hk; omega) x hx
  omega
theorem read_calm (h : Dv B W w a p d o S F) (hT : Tabs W) (hTB : max 0 1 + 1 ≤ B) (hc : Calm S d) (k : Nat) (hk : k < blk S.sectors) (hg : goodAt S d k = true) :
    Calls Tryd.prog 33 #[.pointer (some ⟨a, 0, none⟩), .int .i64 k] w fun e w' => ∃ A c, e = .returned (.tuple #[.slice A 128 c, .int .i64 0]) ∧ Sh.Bytes w w' A (V S d (dataOf k)) ∧ Dv B W w' a p d o (Looked S d) F ∧ Sh.Only F w w' := by
  refine (read_done h hT hTB k hk hc.lt hc.why true hg).mono ?_
  rintro e w' ⟨h1, h2, h3⟩
  rcases h1 with ⟨_, A, c, rfl, hb⟩ | ⟨h0, _⟩
  · exact ⟨A, c, rfl, hb, h2, h3⟩
  · cases h0
theorem read_bad (h : Dv B W w a p d o S F) (hT : Tabs W) (hTB : max 0 1 + 1 ≤ B) (hc : Calm S d) (k : Nat) (hk : k < blk S.sectors) (hg : goodAt S d k = false) :
    Calls Tryd.prog 33 #[.pointer (some ⟨a, 0, none⟩), .int .i64 k] w fun e w' => e = .returned (.tuple #[.slice none 0 0, .int .i64 5]) ∧ Dv B W w' a p d o (Looked S d) F ∧ Sh.Only F w w' := by
  refine (read_done h hT hTB k hk hc.lt hc.why false hg).mono ?_
  rintro e w' ⟨h1, h2, h3⟩
  rcases h1 with ⟨h0, _⟩ | ⟨_, rfl⟩
  · cases h0
  · exact ⟨rfl, h2, h3⟩
theorem flush_calm (h : Dv B W w a p d o S F) (hc : Calm S d) (hL : ∀ k ∈ S.disks, k.waits.length < 1099511627776) :
    Calls Tryd.prog 31 #[.pointer (some ⟨a, 0, none⟩)] w fun e w' => e = .returned (.int .i64 0) ∧ Goes B W w w' a p d (-1) (Fl S d) F := by
  refine (flush_dev h hc.lt hL).mono ?_
  rintro e w' ⟨rfl, hG⟩
  rw [hc.why] at hG ⊢
  exact ⟨rfl, hG⟩
theorem flush_nil (w : World) : Calls Tryd.prog 31 #[.pointer none] w fun e w' => e = .returned (.int .i64 2) ∧ w = w' := by
  go_enter Tryd.func31, Tryd.ntmps31
  go_wp2
  go_ret
  exact ⟨rfl, rfl⟩
theorem count_nil (w : World) : Calls Tryd.prog 28 #[.pointer none] w fun e w' => e = .returned (.int .i64 0) ∧ w = w' := by
  go_enter Tryd.func28, Tryd.ntmps28
  go_wp2
  go_ret
  exact ⟨rfl, rfl⟩
end
theorem getD_rep (m : Nat) (x : Sh.Dk) {d : Nat} (hd : d < m) : (List.replicate m x).getD d default = x := by simp [List.getD, hd]
theorem calm_new {m n d : Nat} (hd : d < m) : Calm (Sh.newSf m n) d := by
  have hg : (Sh.newSf m n).disks.getD d default = Sh.newDk n := getD_rep m _ hd
  refine ⟨by show d < (List.replicate m (Sh.newDk n)).length; rw [List.length_replicate]; exact hd, rfl, rfl, by rw [hg]; rfl, ?_⟩
  rw [hg]
  exact List.length_replicate
theorem V_new {m n d k : Nat} (hd : d < m) (hk : k < n) : V (Sh.newSf m n) d k = Sh.noughts := by
  have hg : (Sh.newSf m n).disks.getD d default = Sh.newDk n := getD_rep m _ hd
  unfold V
  rw [hg]
  show Sh.latest [] k ((List.replicate n Sh.noughts).getD k []) = _
  simp [Sh.latest, List.getD, hk]
theorem new_small (m n : Nat) : ∀ k ∈ (Sh.newSf m n).disks, k.waits.length + 3 < 1099511627776 := by
  intro k hk
  have hk : k ∈ List.replicate m (Sh.newDk n) := hk
  rw [(List.mem_replicate.1 hk).2]
  show 0 + 3 < 1099511627776
  decide
theorem good_noughts {S : Sh.Sf} {d k : Nat} (h1 : V S d (sumOf k) = Sh.noughts) (h2 : V S d (dataOf k) = Sh.noughts) : goodAt S d k = true := by
  unfold goodAt goodL goodB
  rw [h1, h2]
  have h0 : ∀ j, pr Sh.noughts k j = 0 := by
    intro j
    unfold pr
    have : ∀ l : List Nat, (∀ x ∈ l, x = 0) → getN l = 0 := by
      intro l
      induction l with
      | nil => intro _; rfl
      | cons x t ih =>
        intro h
        have hx := h x (List.mem_cons_self ..)
        have ht := ih (fun y hy => h y (List.mem_cons_of_mem _ hy))
        simp [getN, hx, ht]
    apply this
    intro x hx
    have := List.mem_of_mem_drop (List.mem_of_mem_take hx)
    exact List.eq_of_mem_replicate this
  rw [h0, h0]
  simp
end Go.Proofs.YtjdjpafnakhpcaaDoor.U
