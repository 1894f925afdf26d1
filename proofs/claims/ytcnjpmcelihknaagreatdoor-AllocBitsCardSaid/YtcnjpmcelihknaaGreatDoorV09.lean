/-
  What the statement's proof rests on, part 9.
  Conditions: each theorem's own.
-/
import Derived.Test.YtcnjpmcelihknaaGreatDoorV07
import Derived.BigRegion
import Derived.Deep.RegionWith
open Go.Lib (hid)
namespace Go.Proofs.YtcnjpmcelihknaaGreatDoor.S
open Go.RowKit
set_option maxRecDepth 100000 in
set_option maxHeartbeats 4000000 in
theorem right_no1 (s:Sup) (w:World) (h1:¬(1<=s.gen/\s.gen<=4611686018427387904)) :
  Calls Tryz.prog 130 #[s.val] w fun e w'=>e=.returned (.bool false)/\Below w.heap.size w w':=by
 have QF:=hid within_not
 have hblk:=heap_alloc_last w (.cells s.cells 123)
 obtain ⟨c0,c1,c2,c3,c4,c5,c6,c7⟩:=row8 hblk
 clear hblk
 obtain ⟨x0,x1,x2,x3,x4,x5,x6,x7⟩:=s
 simp only [Sup.val,Sup.cells] at *
 go_enter Tryz.func130,Tryz.ntmps130
 have hbW:Below w.heap.size w (w.alloc (.cells #[.int .i64 x0,.int .i64 x1,.int .i64 x2,.int .i64 x3,.int .i64 x4,.int .i64 x5,.int .i64 x6,.int .i64 x7] 123)):=(Below.refl _ _).alloc (Nat.le_refl _) _
 have hgW:w.heap.size<(w.alloc (.cells #[.int .i64 x0,.int .i64 x1,.int .i64 x2,.int .i64 x3,.int .i64 x4,.int .i64 x5,.int .i64 x6,.int .i64 x7] 123)).heap.size:=by simp
 go_wp2_with fail
 generalize w.alloc (.cells #[.int .i64 x0,.int .i64 x1,.int .i64 x2,.int .i64 x3,.int .i64 x4,.int .i64 x5,.int .i64 x6,.int .i64 x7] 123)=W at *
 generalize hgs:w.heap.size=g at *
 have Hgs:=hid hgs
 clear hgs
 go_quiet ((first | (go_at_call 182;refine (QF.out _ _ _ (by assumption) _).mono ?_;rintro e w' ⟨rfl,rfl⟩;exact ⟨rfl,_,rfl⟩)))
 go_wp2
 go_ret
 exact ⟨rfl,by rw [Hgs.out];exact hbW.trans ⟨rfl,rfl,rfl,Nat.le_refl _,fun _ _=>rfl⟩⟩
set_option maxRecDepth 100000 in
set_option maxHeartbeats 4000000 in
theorem right_no2 (s:Sup) (w:World) (h1:(1<=s.gen/\s.gen<=4611686018427387904)) (h2:¬(3<=s.mem/\s.mem<=16)) :
  Calls Tryz.prog 130 #[s.val] w fun e w'=>e=.returned (.bool false)/\Below w.heap.size w w':=by
 have Q:=hid within_yes
 have QF:=hid within_not
 have hblk:=heap_alloc_last w (.cells s.cells 123)
 obtain ⟨c0,c1,c2,c3,c4,c5,c6,c7⟩:=row8 hblk
 clear hblk
 obtain ⟨x0,x1,x2,x3,x4,x5,x6,x7⟩:=s
 simp only [Sup.val,Sup.cells] at *
 go_enter Tryz.func130,Tryz.ntmps130
 have hbW:Below w.heap.size w (w.alloc (.cells #[.int .i64 x0,.int .i64 x1,.int .i64 x2,.int .i64 x3,.int .i64 x4,.int .i64 x5,.int .i64 x6,.int .i64 x7] 123)):=(Below.refl _ _).alloc (Nat.le_refl _) _
 have hgW:w.heap.size<(w.alloc (.cells #[.int .i64 x0,.int .i64 x1,.int .i64 x2,.int .i64 x3,.int .i64 x4,.int .i64 x5,.int .i64 x6,.int .i64 x7] 123)).heap.size:=by simp
 go_wp2_with fail
 generalize w.alloc (.cells #[.int .i64 x0,.int .i64 x1,.int .i64 x2,.int .i64 x3,.int .i64 x4,.int .i64 x5,.int .i64 x6,.int .i64 x7] 123)=W at *
 generalize hgs:w.heap.size=g at *
 have Hgs:=hid hgs
 clear hgs
 go_quiet ((first | (go_at_call 182;refine (Q.out _ _ _ (by assumption) _).mono ?_;rintro e w' ⟨rfl,rfl⟩;exact ⟨rfl,_,rfl⟩) | (go_at_call 182;refine (QF.out _ _ _ (by assumption) _).mono ?_;rintro e w' ⟨rfl,rfl⟩;exact ⟨rfl,_,rfl⟩)))
 go_wp2
 go_ret
 exact ⟨rfl,by rw [Hgs.out];exact hbW.trans ⟨rfl,rfl,rfl,Nat.le_refl _,fun _ _=>rfl⟩⟩
set_option maxRecDepth 100000 in
set_option maxHeartbeats 4000000 in
theorem right_no3 (s:Sup) (w:World) (h1:(1<=s.gen/\s.gen<=4611686018427387904)) (h2:(3<=s.mem/\s.mem<=16)) (h3:¬(0<=s.disk/\s.disk<=s.mem)) :
  Calls Tryz.prog 130 #[s.val] w fun e w'=>e=.returned (.bool false)/\Below w.heap.size w w':=by
 have Q:=hid within_yes
 have QF:=hid within_not
 have hblk:=heap_alloc_last w (.cells s.cells 123)
 obtain ⟨c0,c1,c2,c3,c4,c5,c6,c7⟩:=row8 hblk
 clear hblk
 obtain ⟨x0,x1,x2,x3,x4,x5,x6,x7⟩:=s
 simp only [Sup.val,Sup.cells] at *
 go_enter Tryz.func130,Tryz.ntmps130
 have hbW:Below w.heap.size w (w.alloc (.cells #[.int .i64 x0,.int .i64 x1,.int .i64 x2,.int .i64 x3,.int .i64 x4,.int .i64 x5,.int .i64 x6,.int .i64 x7] 123)):=(Below.refl _ _).alloc (Nat.le_refl _) _
 have hgW:w.heap.size<(w.alloc (.cells #[.int .i64 x0,.int .i64 x1,.int .i64 x2,.int .i64 x3,.int .i64 x4,.int .i64 x5,.int .i64 x6,.int .i64 x7] 123)).heap.size:=by simp
 go_wp2_with fail
 generalize w.alloc (.cells #[.int .i64 x0,.int .i64 x1,.int .i64 x2,.int .i64 x3,.int .i64 x4,.int .i64 x5,.int .i64 x6,.int .i64 x7] 123)=W at *
 generalize hgs:w.heap.size=g at *
 have Hgs:=hid hgs
 clear hgs
 go_quiet ((first | (go_at_call 182;refine (Q.out _ _ _ (by assumption) _).mono ?_;rintro e w' ⟨rfl,rfl⟩;exact ⟨rfl,_,rfl⟩) | (go_at_call 182;refine (QF.out _ _ _ (by assumption) _).mono ?_;rintro e w' ⟨rfl,rfl⟩;exact ⟨rfl,_,rfl⟩)))
 go_wp2
 go_ret
 exact ⟨rfl,by rw [Hgs.out];exact hbW.trans ⟨rfl,rfl,rfl,Nat.le_refl _,fun _ _=>rfl⟩⟩
set_option maxRecDepth 100000 in
set_option maxHeartbeats 4000000 in
theorem right_no4 (s:Sup) (w:World) (h1:(1<=s.gen/\s.gen<=4611686018427387904)) (h2:(3<=s.mem/\s.mem<=16)) (h3:(0<=s.disk/\s.disk<=s.mem)) (h4:¬(1<=s.str/\s.str<=1024)) :
  Calls Tryz.prog 130 #[s.val] w fun e w'=>e=.returned (.bool false)/\Below w.heap.size w w':=by
 have Q:=hid within_yes
 have QF:=hid within_not
 have hblk:=heap_alloc_last w (.cells s.cells 123)
 obtain ⟨c0,c1,c2,c3,c4,c5,c6,c7⟩:=row8 hblk
 clear hblk
 obtain ⟨x0,x1,x2,x3,x4,x5,x6,x7⟩:=s
 simp only [Sup.val,Sup.cells] at *
 go_enter Tryz.func130,Tryz.ntmps130
 have hbW:Below w.heap.size w (w.alloc (.cells #[.int .i64 x0,.int .i64 x1,.int .i64 x2,.int .i64 x3,.int .i64 x4,.int .i64 x5,.int .i64 x6,.int .i64 x7] 123)):=(Below.refl _ _).alloc (Nat.le_refl _) _
 have hgW:w.heap.size<(w.alloc (.cells #[.int .i64 x0,.int .i64 x1,.int .i64 x2,.int .i64 x3,.int .i64 x4,.int .i64 x5,.int .i64 x6,.int .i64 x7] 123)).heap.size:=by simp
 go_wp2_with fail
 generalize w.alloc (.cells #[.int .i64 x0,.int .i64 x1,.int .i64 x2,.int .i64 x3,.int .i64 x4,.int .i64 x5,.int .i64 x6,.int .i64 x7] 123)=W at *
 generalize hgs:w.heap.size=g at *
 have Hgs:=hid hgs
 clear hgs
 go_quiet ((first | (go_at_call 182;refine (Q.out _ _ _ (by assumption) _).mono ?_;rintro e w' ⟨rfl,rfl⟩;exact ⟨rfl,_,rfl⟩) | (go_at_call 182;refine (QF.out _ _ _ (by assumption) _).mono ?_;rintro e w' ⟨rfl,rfl⟩;exact ⟨rfl,_,rfl⟩)))
 go_wp2
 go_ret
 exact ⟨rfl,by rw [Hgs.out];exact hbW.trans ⟨rfl,rfl,rfl,Nat.le_refl _,fun _ _=>rfl⟩⟩
set_option maxRecDepth 100000 in
set_option maxHeartbeats 4000000 in
theorem right_no5 (s:Sup) (w:World) (h1:(1<=s.gen/\s.gen<=4611686018427387904)) (h2:(3<=s.mem/\s.mem<=16)) (h3:(0<=s.disk/\s.disk<=s.mem)) (h4:(1<=s.str/\s.str<=1024)) (h5:¬(1<=s.logs/\s.logs<=8)) :
  Calls Tryz.prog 130 #[s.val] w fun e w'=>e=.returned (.bool false)/\Below w.heap.size w w':=by
 have Q:=hid within_yes
 have QF:=hid within_not
 have hblk:=heap_alloc_last w (.cells s.cells 123)
 obtain ⟨c0,c1,c2,c3,c4,c5,c6,c7⟩:=row8 hblk
 clear hblk
 obtain ⟨x0,x1,x2,x3,x4,x5,x6,x7⟩:=s
 simp only [Sup.val,Sup.cells] at *
 go_enter Tryz.func130,Tryz.ntmps130
 have hbW:Below w.heap.size w (w.alloc (.cells #[.int .i64 x0,.int .i64 x1,.int .i64 x2,.int .i64 x3,.int .i64 x4,.int .i64 x5,.int .i64 x6,.int .i64 x7] 123)):=(Below.refl _ _).alloc (Nat.le_refl _) _
 have hgW:w.heap.size<(w.alloc (.cells #[.int .i64 x0,.int .i64 x1,.int .i64 x2,.int .i64 x3,.int .i64 x4,.int .i64 x5,.int .i64 x6,.int .i64 x7] 123)).heap.size:=by simp
 go_wp2_with fail
 generalize w.alloc (.cells #[.int .i64 x0,.int .i64 x1,.int .i64 x2,.int .i64 x3,.int .i64 x4,.int .i64 x5,.int .i64 x6,.int .i64 x7] 123)=W at *
 generalize hgs:w.heap.size=g at *
 have Hgs:=hid hgs
 clear hgs
 go_quiet ((first | (go_at_call 182;refine (Q.out _ _ _ (by assumption) _).mono ?_;rintro e w' ⟨rfl,rfl⟩;exact ⟨rfl,_,rfl⟩) | (go_at_call 182;refine (QF.out _ _ _ (by assumption) _).mono ?_;rintro e w' ⟨rfl,rfl⟩;exact ⟨rfl,_,rfl⟩)))
 go_wp2
 go_ret
 exact ⟨rfl,by rw [Hgs.out];exact hbW.trans ⟨rfl,rfl,rfl,Nat.le_refl _,fun _ _=>rfl⟩⟩
set_option maxRecDepth 100000 in
set_option maxHeartbeats 4000000 in
theorem right_no6 (s:Sup) (w:World) (h1:(1<=s.gen/\s.gen<=4611686018427387904)) (h2:(3<=s.mem/\s.mem<=16)) (h3:(0<=s.disk/\s.disk<=s.mem)) (h4:(1<=s.str/\s.str<=1024)) (h5:(1<=s.logs/\s.logs<=8)) (h6:¬(-1<=s.spare/\s.spare<=s.mem-1)) :
  Calls Tryz.prog 130 #[s.val] w fun e w'=>e=.returned (.bool false)/\Below w.heap.size w w':=by
 have Q:=hid within_yes
 have QF:=hid within_not
 have w1:IntKind.i64.wrap (s.mem-1)=s.mem-1:=by rw [IntKind.wrap_i64];omega
 have hblk:=heap_alloc_last w (.cells s.cells 123)
 obtain ⟨c0,c1,c2,c3,c4,c5,c6,c7⟩:=row8 hblk
 clear hblk
 obtain ⟨x0,x1,x2,x3,x4,x5,x6,x7⟩:=s
 simp only [Sup.val,Sup.cells] at *
 go_enter Tryz.func130,Tryz.ntmps130
 have hbW:Below w.heap.size w (w.alloc (.cells #[.int .i64 x0,.int .i64 x1,.int .i64 x2,.int .i64 x3,.int .i64 x4,.int .i64 x5,.int .i64 x6,.int .i64 x7] 123)):=(Below.refl _ _).alloc (Nat.le_refl _) _
 have hgW:w.heap.size<(w.alloc (.cells #[.int .i64 x0,.int .i64 x1,.int .i64 x2,.int .i64 x3,.int .i64 x4,.int .i64 x5,.int .i64 x6,.int .i64 x7] 123)).heap.size:=by simp
 go_wp2_with fail
 generalize w.alloc (.cells #[.int .i64 x0,.int .i64 x1,.int .i64 x2,.int .i64 x3,.int .i64 x4,.int .i64 x5,.int .i64 x6,.int .i64 x7] 123)=W at *
 generalize hgs:w.heap.size=g at *
 have Hgs:=hid hgs
 clear hgs
 go_quiet ((first | (go_at_call 182;refine (Q.out _ _ _ (by assumption) _).mono ?_;rintro e w' ⟨rfl,rfl⟩;exact ⟨rfl,_,rfl⟩) | (go_at_call 182;refine (QF.out _ _ _ (by assumption) _).mono ?_;rintro e w' ⟨rfl,rfl⟩;exact ⟨rfl,_,rfl⟩)))
 go_wp2
 go_ret
 exact ⟨rfl,by rw [Hgs.out];exact hbW.trans ⟨rfl,rfl,rfl,Nat.le_refl _,fun _ _=>rfl⟩⟩
end Go.Proofs.YtcnjpmcelihknaaGreatDoor.S
