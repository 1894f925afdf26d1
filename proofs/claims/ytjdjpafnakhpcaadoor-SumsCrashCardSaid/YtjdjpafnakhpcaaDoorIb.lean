/-
  What the shelf's statements ask of every program at one handful of inputs, returns true.
  Conditions: none.
-/
import Derived.Test.YtjdjpafnakhpcaaDoorIa
import Derived.Deep.RegionHeld3
namespace Go.Proofs.YtjdjpafnakhpcaaDoor.Sh
open Go.RowKit Go.Maps

/-- S may be narrowed on the way. -/
theorem wpAnyH_mono {P : Program} {md : Region.Mode} {ops : Array Oper} {Q : Exit → Act → World → Prop} {S S' : World → Prop} (hS : ∀ w, S' w → S w) : ∀ (fuel : Nat) (listed : Array Bool) (a : Act) (w : World), wpAnyH P md ops Q S' fuel listed a w → wpAnyH P md ops Q S fuel listed a w
  | 0, _, _, _, h => h
  | fuel + 1, _, _, _, h => ⟨h.1, fun i hi => wpOp_mono (fun a' w' h' => ⟨hS _ h'.1, wpAnyH_mono hS fuel _ a' w' h'.2⟩) (h.2 i hi)⟩
theorem below_on {w w1 w2 : World} (h : Below w.heap.size w w1) (k : Below w1.heap.size w1 w2) : Below w.heap.size w w2 := h.trans (k.mono h.size)
theorem conv_grown {w : World} {F : Nat → Prop} {A : Option Addr} {c : Nat} {l : Bs} {s : ByteArray} (h : Beside w F A l) (hs : strL l = s) (W : World) (hb : Below w.heap.size w W) : (convert 28 9 (.slice A 128 c)).run Tryd.prog W = .ok (.string s) W := by
  rw [← hs]
  exact (h.grown hb).str c
theorem conv_own {w : World} {B q : Nat} {l : Bs} {s : ByteArray} (h : w.ownsRow B 5 1 (.slice (some ⟨q, 0, none⟩) 128 128) 128 (bts l)) (hs : strL l = s) (W : World) (hb : Below w.heap.size w W) : (convert 28 9 (.slice (some ⟨q, 0, none⟩) 128 128)).run Tryd.prog W = .ok (.string s) W := by
  rw [← hs]
  exact run_str 128 (((Reads.of_own h).below hb).more hb.size)
end Go.Proofs.YtjdjpafnakhpcaaDoor.Sh
