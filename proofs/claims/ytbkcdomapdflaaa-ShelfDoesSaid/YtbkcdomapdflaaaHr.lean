/-
  The contract of a disk's read: what was written last to a sector.
  Conditions: the disk lies in memory as 'DiskIs' says; the sector is one of its own.
-/
import Derived.Test.YtbkcdomapdflaaaHp
namespace Go.Proofs.Ytbkcdomapdflaaa.Sh
open Go.RowKit Go.Maps

/-- The shape of an owned row of elements of any size. -/
theorem own_form {w : World} {base : Nat} {e : TypeId} {size : Nat} {v : Value} {n : Nat} {xs : List Value} (h : w.ownsRow base e size v n xs) (hn : 0 < n) :
    ∃ g cap, v = .slice (some ⟨g, 0, none⟩) n cap ∧ g < w.heap.size ∧ n ≤ cap ∧ cap ≤ 9223372036854775807 := by
  rcases h.2 with ⟨_, h0⟩ | ⟨g, cap, cur, rfl, _, hh, hnc, hcm, _⟩
  · omega
  · exact ⟨g, cap, rfl, lt_of_block hh, hnc, by unfold maxLen at hcm; omega⟩
theorem cell_set_other (w : World) (a p : Addr) (v : Value) (h : p.block ≠ a.block) : (w.setCell a v).cell? p = w.cell? p := World.cell?_setCell_other w a p v (fun e => h (by rw [e]))
theorem frozen_set (w : World) (a p : Addr) (v : Value) (h : p.block ≠ a.block) : (w.setCell a v).frozen? p = w.frozen? p := World.frozen?_of_block (w := w) (Below.heap_setCell _ _ _ _ h)
theorem cell_at {w : World} {base : Nat} {e : TypeId} {size g n cap j : Nat} {xs : List Value} {u : Value} (h : w.ownsRow base e size (.slice (some ⟨g, 0, none⟩) n cap) n xs) (hj : xs[j]? = some u) : w.cell? ⟨g, j, none⟩ = some u := by
  have hlt : j < n * size := by rw [← h.1]; exact (List.getElem?_eq_some_iff.1 hj).1
  rw [h.cellAt j hlt]; exact hj

set_option maxRecDepth 20000 in
theorem dread_wait (w : World) (D o sectors n j : Nat) (g : Gh) (k : Dk) (h : DiskIs w sectors g k) (hn : n < sectors) (hs : sectors ≤ 4096)
    (c1 : w.cell? ⟨D, o + 1, none⟩ = some g.v) (c2 : w.cell? ⟨D, o + 2, none⟩ = some (.map (some g.m))) (hj : lastOf k.waits n = some j) :
    Calls Try.prog 42 #[.pointer (some ⟨D, o, none⟩), .int .i64 n] w fun e w' => e = .returned (sv (k.val n)) ∧ w = w' := by
  obtain ⟨hjl, hjw⟩ := lastOf_some (k.sure.getD n []) hj
  obtain ⟨gb, cap, hv, _, hlc, hcm⟩ := own_form h.waits (by omega)
  have hr := h.waits
  rw [hv] at hr c1
  have hc := cell_at hr (flat_at _ _ _ _ hjw).2
  obtain ⟨Dm, hown, hf⟩ := h.map
  have hh : Maps.has Dm (.int .i64 (n : Int)) = true := by rw [(hf n).1, hj]; rfl
  have ha := (hf n).2 j hj
  have hval : k.val n = latest k.waits n (k.sure.getD n []) := rfl
  have hkey := keyInt n (by omega)
  generalize latest k.waits n (k.sure.getD n []) = b at *
  generalize k.waits.length = L at *
  clear hr hv hjw hf hj h
  have HV := Lib.hid hval
  clear hval
  go_enter Try.func42, Try.ntmps42
  go_wp2_with (first
    | (at_lookup; refine wpList_lookup_own_ok_int _ rfl _ _ 51 rfl 3 3 .i64 lawInt Try.underlying51 Try.underlying3 (zeroInt _) g.m L Dm rfl hown _ _ rfl hkey ?_; intro c hat hwc; obtain rfl : (j : Int) = c := (by rw [ha] at hat; injection hat with e; injection e); clear hat hwc)
    | go_in)
  go_ret
  exact ⟨by rw [HV.out]; rfl, rfl⟩
set_option maxRecDepth 20000 in
theorem dread_sure (w : World) (D o sectors n : Nat) (g : Gh) (k : Dk) (h : DiskIs w sectors g k) (hn : n < sectors) (hs : sectors ≤ 4096)
    (c0 : w.cell? ⟨D, o, none⟩ = some g.s) (c2 : w.cell? ⟨D, o + 2, none⟩ = some (.map (some g.m))) (hj : lastOf k.waits n = none) :
    Calls Try.prog 42 #[.pointer (some ⟨D, o, none⟩), .int .i64 n] w fun e w' => e = .returned (sv (k.val n)) ∧ w = w' := by
  have hval : k.val n = k.sure.getD n [] := lastOf_none _ hj
  obtain ⟨gb, cap, hv, _, hlc, hcm⟩ := own_form h.sure (by omega)
  have hr := h.sure
  rw [hv] at hr c0
  have hl := h.len
  have hc := cell_at hr (j := n) (u := sv (k.sure.getD n [])) (by simp [List.getD, hl, hn])
  obtain ⟨Dm, hown, hf⟩ := h.map
  have hh : Maps.has Dm (.int .i64 (n : Int)) = false := by rw [(hf n).1, hj]; rfl
  have hkey := keyInt n (by omega)
  generalize k.sure.getD n [] = b at *
  generalize k.waits.length = L at *
  clear hr hv hf hj h hl
  have HV := Lib.hid hval
  clear hval
  go_enter Try.func42, Try.ntmps42
  go_wp2_with (first
    | (at_lookup; refine wpList_lookup_own_ok_int _ rfl _ _ 51 rfl 3 3 .i64 lawInt Try.underlying51 Try.underlying3 (zeroInt _) g.m L Dm rfl hown _ _ rfl hkey ?_; intro c hat hwc; clear hat hwc)
    | go_in)
  go_ret
  exact ⟨by rw [HV.out]; rfl, rfl⟩
theorem dread_any (w : World) (D o sectors n : Nat) (g : Gh) (k : Dk) (h : DiskIs w sectors g k) (hn : n < sectors) (hs : sectors ≤ 4096)
    (c0 : w.cell? ⟨D, o, none⟩ = some g.s) (c1 : w.cell? ⟨D, o + 1, none⟩ = some g.v) (c2 : w.cell? ⟨D, o + 2, none⟩ = some (.map (some g.m))) :
    Calls Try.prog 42 #[.pointer (some ⟨D, o, none⟩), .int .i64 n] w fun e w' => e = .returned (sv (k.val n)) ∧ w = w' := by
  rcases hj : lastOf k.waits n with _ | j
  · exact dread_sure w D o sectors n g k h hn hs c0 c2 hj
  · exact dread_wait w D o sectors n j g k h hn hs c1 c2 hj
end Go.Proofs.Ytbkcdomapdflaaa.Sh
