/-
  The library's Cut at a slash; the iterator over what stands between slashes, for every loop body.
  Conditions: each theorem's own.
-/
import Derived.Test.YtblkfiaeifckjaaN4
import Derived.Lib.IndexLaws
import Derived.RangeFuncNested
import Derived.RangeFuncBound
import Derived.RangeFuncCalls
import Derived.RangeFuncLeaves
import Derived.RangeFuncBox
import Derived.Shelf.Abstract
import Derived.Shelf.RegionOpen
import Derived.OwnWalkIn
import Derived.TacticsInMore
import Derived.LoopNIn
import Derived.LoopIn
import Derived.Maps.AppendAt
namespace Go.Proofs.Ytblkfiaeifckjaa
open Go.RowKit Go.Shelf
attribute [local go_sem] Oper.semAt_some

theorem index_front : ∀ (l : Bs), (Lib.indexByte l 47 = -1 ∧ front l = l ∧ behind l = []) ∨ ∃ k : Nat, Lib.indexByte l 47 = k ∧ k < l.length ∧ front l = l.take k ∧ behind l = l.drop (k + 1)
  | [] => .inl ⟨rfl, rfl, rfl⟩
  | b :: r => by
    by_cases hb : b = 47
    · subst hb
      exact .inr ⟨0, rfl, by simp, rfl, rfl⟩
    · have hbe : (b == 47) = false := beq_eq_false_iff_ne.2 hb
      rcases index_front r with ⟨h1, h2, h3⟩ | ⟨k, h1, h0, h2, h3⟩
      · refine .inl ⟨by rw [Lib.indexByte, hbe, h1]; rfl, by simp [front, hb, h2], by simp [behind, hb, h3]⟩
      · refine .inr ⟨k + 1, ?_, by simp; omega, by simp [front, hb, h2], by simp [behind, hb, h3]⟩
        rw [Lib.indexByte, hbe, h1]
        have : (((k : Nat) : Int) == -1) = false := beq_eq_false_iff_ne.2 (by omega)
        simp [this]
theorem mk_list (s : ByteArray) : (⟨s.data.toList.toArray⟩ : ByteArray) = s := by cases s; simp
theorem extract_front (s : ByteArray) (k : Nat) : s.extract 0 k = ⟨(s.data.toList.take k).toArray⟩ := by
  rw [← mk_list (s.extract 0 k)]
  congr 2
  simp [ByteArray.extract, ByteArray.copySlice]
theorem extract_behind (s : ByteArray) (k : Nat) : s.extract k s.size = ⟨(s.data.toList.drop k).toArray⟩ := by
  rw [← mk_list (s.extract k s.size), Lib.extract_to_end]

set_option maxHeartbeats 1000000 in
theorem cutLite (s : ByteArray) (w : World) (hs : s.size ≤ 4611686018427387904) :
    Calls Try.prog 38 #[.string s, .string ⟨#[47]⟩] w fun e w' => ∃ b, e = .returned (.tuple #[sv (front s.data.toList), sv (behind s.data.toList), .bool b]) ∧ ∃ n, w' = w.drewN n := by
  have hI := Lib.hid (fun w => Try.stringslite_Index_one s 47 w)
  unfold sv
  rcases index_front s.data.toList with ⟨h1, h2, h3⟩ | ⟨k, h1, h0, h2, h3⟩
  · rw [h1] at hI
    rw [h2, h3, mk_list]
    have hz : ¬ (0 : Int) ≤ -1 := by decide
    go_enter Try.func38, Try.ntmps38
    go_wp2_with (go_at_call 45; refine (hI.out _).mono ?_; rintro e w' ⟨rfl, hw⟩; rw [hw])
    refine bodyPost_ret (results_tmp3 rfl _ _ _) rfl ?_
    exact ⟨_, rfl, 0, rfl⟩
  · rw [h1] at hI
    have hk : k < s.size := by rw [Lib.size_eq]; exact h0
    rw [h2, h3, ← extract_front s k, ← extract_behind s (k + 1)]
    have hz : (0 : Int) ≤ (k : Int) := by omega
    have hw1 : IntKind.i64.wrap ((k : Int) + 1) = ((k + 1 : Nat) : Int) := by rw [IntKind.wrap_i64]; omega
    go_enter Try.func38, Try.ntmps38
    go_wp2_with (go_at_call 45; refine (hI.out _).mono ?_; rintro e w' ⟨rfl, hw⟩; rw [hw])
    go_quiet (fail)
    go_wp2
    refine bodyPost_ret (results_tmp3 rfl _ _ _) rfl ?_
    exact ⟨_, rfl, _, rfl⟩
theorem cut (s : ByteArray) (w : World) (hs : s.size ≤ 4611686018427387904) :
    Calls Try.prog 30 #[.string s, .string ⟨#[47]⟩] w fun e w' => ∃ b, e = .returned (.tuple #[sv (front s.data.toList), sv (behind s.data.toList), .bool b]) ∧ ∃ n, w' = w.drewN n := by
  have hI := Lib.hid (fun w => cutLite s w hs)
  go_enter Try.func30, Try.ntmps30
  go_wp2_with (go_at_call 38; refine (hI.out _).mono ?_; rintro e w' ⟨b, rfl, n, rfl⟩)
  refine bodyPost_ret (results_tmp3 rfl _ _ _) rfl ?_
  exact ⟨_, rfl, _, rfl⟩
theorem cut_parts (s : ByteArray) (w : World) (hs : s.size ≤ 4611686018427387904) :
    Calls Try.prog 30 #[.string s, .string ⟨#[47]⟩] w fun e w' => ∃ (N B : ByteArray) (b : Bool) (n : Nat), e = .returned (.tuple #[.string N, .string B, .bool b]) ∧ N.data.toList = front s.data.toList ∧ B.data.toList = behind s.data.toList ∧ w' = w.drewN n :=
  (cut s w hs).mono fun _ _ ⟨b, he, n, hn⟩ => ⟨⟨(front s.data.toList).toArray⟩, ⟨(behind s.data.toList).toArray⟩, b, n, he, by simp, by simp, hn⟩
def strLen : Value → Nat
  | .string s => s.size
  | _ => 0
theorem grown_drewN (w : World) (n : Nat) (row : Option Nat) : w.grownBy (w.drewN n) row := ⟨rfl, rfl, rfl, Nat.le_refl _, fun _ _ _ => rfl⟩
theorem sv_of {N : ByteArray} {l : Bs} (h : N.data.toList = l) : sv l = .string N := by unfold sv; rw [← h, mk_list]

/-- A text that a machine can hold. -/
abbrev Sn := { x : Bs // x.length ≤ 4611686018427387904 }
def raw (l : List Sn) : List Bs := l.map (·.1)
theorem raw_snoc (l : List Sn) (x : Sn) : raw (l ++ [x]) = raw l ++ [x.1] := by simp [raw]
theorem raw_length (l : List Sn) : (raw l).length = l.length := by simp [raw]
theorem front_length : ∀ l : Bs, (front l).length ≤ l.length
  | [] => Nat.le_refl _
  | b :: r => by
    unfold front
    have := front_length r
    by_cases hb : b = 47
    · simp [hb]
    · simp [hb]; omega

set_option maxRecDepth 100000 in
set_option maxHeartbeats 2000000 in
/-- The iterator, for every loop body that keeps what lay below n₀. -/
theorem pieces_in (n l Bn n₀ : Nat) (hn : 1 ≤ n) (p : ByteArray) (hp : p.size ≤ 4611686018427387904) (J Jx : List Sn → World → Prop)
    (hY : ∀ pre x W, J pre W → pre.length < (pieces p.data.toList).length → YieldAt Fence.wide (n - 1) Try.prog l #[sv x.1] W fun e W' =>
      (e = .returned (.bool true) ∧ J (pre ++ [x]) W' ∧ Below n₀ W W') ∨ (e = .returned (.bool false) ∧ Jx (pre ++ [x]) W'))
    (W : World) (hJ : AbidesFrom W.heap.size J) (hBn : W.cell? ⟨Bn, 0, none⟩ = some (.string p)) (h0 : J [] W) :
    CallsIn Fence.wide n Try.prog 29 #[.func (.yield l) #[] #[], .pointer (some ⟨Bn, 0, none⟩)] W fun e W' => (∃ v, e = .returned v) ∧
      ((∃ ys, raw ys = pieces p.data.toList ∧ J ys W') ∨ (∃ pre, raw pre <+: pieces p.data.toList ∧ Jx pre W')) := by
  refine callsIn_of_wp Try.func29 rfl trivial ?_ rfl
  simp only [Try.ntmps29, List.size_toArray, List.length_cons, List.length_nil, Nat.reduceAdd, Nat.reduceSub, Array.replicate_succ, Array.replicate_zero, List.push_toArray, List.append_toArray, List.nil_append, List.cons_append]
  gi_wp2
  gi_loopw [3] (fun s3 wr => ∃ (pre : List Sn) (r : ByteArray), s3 = .string r ∧ pieces p.data.toList = raw pre ++ pieces r.data.toList ∧ J pre wr ∧ r.size ≤ p.size) (fun s3 _ => strLen s3)
  case atStart => exact ⟨[], p, rfl, rfl, h0, Nat.le_refl _⟩
  case round =>
    obtain ⟨pre, r, rfl, hx, hJs, hr⟩ := hrel
    have HX := Lib.hid hx
    have HJ := Lib.hid hJs
    clear hx hJs
    by_cases h0 : r.data.toList = []
    · have e0 : r.toList.isEmpty = true := by rw [Lib.toList_data, h0]; rfl
      gi_wp2
      go_end0
      exact ⟨⟨_, rfl⟩, .inl ⟨pre, by rw [HX.out, h0]; simp [pieces, piecesA], HJ.out⟩⟩
    · have e0 : r.toList.isEmpty = false := by
        rw [Lib.toList_data]
        cases h : r.data.toList with
        | nil => exact absurd h h0
        | cons _ _ => rfl
      have hst := Lib.hid (pieces_step r.data.toList)
      have hlen := Lib.hid (behind_length r.data.toList h0)
      have HC := Lib.hid (fun w => cut_parts r w (by omega))
      by_cases hf : front r.data.toList = []
      · gi_wp2_with (refine ⟨trivial, ?_⟩; gi_at_call 30; refine (callsIn_wide.2 (HC.out _)).mono ?_; rintro e w' ⟨N, B, b, k, rfl, hN, hB, rfl⟩; have e1 : N.toList.isEmpty = true := (by rw [Lib.toList_data, hN, hf]; rfl))
        refine ⟨fun _ h => (by cases h), ?_⟩
        gi_wp2
        go_roundw
        case rel =>
          refine ⟨pre, B, rfl, ?_, hJ _ _ _ none HJ.out (grown_drewN _ _ _) (fun r e => by cases e), ?_⟩
          · rw [HX.out, hst.out, if_pos hf, hB]; simp
          · rw [Lib.size_eq, hB]; have := hlen.out; rw [← Lib.size_eq] at this; omega
        case measure =>
          simp only [strLen]
          rw [Lib.size_eq, hB]; have := hlen.out; rw [← Lib.size_eq] at this; omega
      · have hfe : (front r.data.toList).isEmpty = false := by
          cases h : front r.data.toList with
          | nil => exact absurd h hf
          | cons _ _ => rfl
        have hfl : (front r.data.toList).length ≤ 4611686018427387904 := by
          have h1 := front_length r.data.toList
          rw [← Lib.size_eq] at h1
          omega
        have hY2 := Lib.hid (fun (N : ByteArray) (k : Nat) (hN : N.data.toList = front r.data.toList) => sv_of hN ▸ hY pre ⟨front r.data.toList, hfl⟩ (wr.drewN k) (hJ _ _ _ none HJ.out (grown_drewN _ _ _) (fun r e => by cases e)) (by rw [HX.out, hst.out, if_neg hf]; simp [raw]))
        gi_wp2_with (refine ⟨trivial, ?_⟩; gi_at_call 30; refine (callsIn_wide.2 (HC.out _)).mono ?_; rintro e w' ⟨N, B, b, k, rfl, hN, hB, rfl⟩; have e1 : N.toList.isEmpty = false := (by rw [Lib.toList_data, hN]; exact hfe); obtain ⟨fn, tmps, assign, body, hy, hR⟩ := hY2.out N k hN)
        refine hR.mono ?_
        rintro e W3 (⟨rfl, hJ3, _⟩ | ⟨rfl, hJx3⟩)
        · gi_wp2
          go_roundw
          case rel =>
            refine ⟨pre ++ [⟨front r.data.toList, hfl⟩], B, rfl, ?_, hJ3, ?_⟩
            · rw [HX.out, hst.out, if_neg hf, hB]; simp [raw]
            · rw [Lib.size_eq, hB]; have := hlen.out; rw [← Lib.size_eq] at this; omega
          case measure =>
            simp only [strLen]
            rw [Lib.size_eq, hB]; have := hlen.out; rw [← Lib.size_eq] at this; omega
        · gi_wp2
          refine bodyPost_ret (results_none rfl _ _ _) rfl ?_
          exact ⟨⟨_, rfl⟩, .inr ⟨pre ++ [⟨front r.data.toList, hfl⟩], ⟨pieces (behind r.data.toList), by rw [HX.out, hst.out, if_neg hf]; simp [raw]⟩, hJx3⟩⟩
end Go.Proofs.Ytblkfiaeifckjaa
