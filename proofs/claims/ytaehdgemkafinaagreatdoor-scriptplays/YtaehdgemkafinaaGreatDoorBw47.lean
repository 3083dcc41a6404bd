/-
  On the way to SPlaysProof: O35.
-/
import Derived.Test.YtaehdgemkafinaaGreatDoorBw46
set_option maxHeartbeats 8000000
set_option maxRecDepth 100000
namespace Go.Proofs.YtaehdgemkafinaaGreatDoor
open Go.RowKit
section
variable {w:World} {wd:ByteArray} {xb g o cap c:Nat} {a b:Int} {R:World→Prop}
def BxL (w W:World) (wd:ByteArray) (v:Value):Prop:=W.cell? ⟨w.heap.size,0,none⟩=some (.string wd)∧W.cell? ⟨w.heap.size,1,none⟩=some v
theorem bxL_new (w:World) (wd:ByteArray) (v:Value):BxL w (w.alloc (.cells #[.string wd,v] 36)) wd v:=by
 have hr:=heap_alloc_new w (.cells #[.string wd,v] 36)
 exact ⟨by rw [cell_of_row _ _ _ _ _ _ hr]; rfl,by rw [cell_of_row _ _ _ _ _ _ hr]; rfl⟩
abbrev bxW (w:World) (wd:ByteArray) (v:Value):World:=w.alloc (.cells #[.string wd,v] 36)
theorem an1_any (h:IsNm wd 1) (h0:w.cell? ⟨g,o,none⟩=some (.int .i64 a)) (h1:w.cell? ⟨g,o+1,none⟩=some (.int .i64 b)) (hc9:c≤9)
  (hc:Calls Tryz.prog 22 #[.pointer (some ⟨xb,0,none⟩),.int .i64 a,.int .i64 b] (bxW w wd (.slice (some ⟨g,o,none⟩) 2 cap)).drew fun e w'=>e=.returned (.int .i64 (c:Int))∧R w')
  (hk:∀ W,R W→BxL w W wd (.slice (some ⟨g,o,none⟩) 2 cap)∧W.cell? ⟨g,o,none⟩=some (.int .i64 a)∧W.cell? ⟨g,o+1,none⟩=some (.int .i64 b)) :
  Calls Tryz.prog 16 #[.pointer (some ⟨xb,0,none⟩),.agg #[.string wd,.slice (some ⟨g,o,none⟩) 2 cap]] w fun e w'=>e=.returned (.string (bB (sayO (c,[111,107]))))∧∃ w1,R w1∧Below w1.heap.size w1 w':=by
 have k0:(wd.toList == [115,105,116,101,115])=false:=h 0 (by decide)
 have k1:(wd.toList == [98,101,103,105,110])=true:=h 1 (by decide)
 have k2:(wd.toList == [114,101,102,117,115,101])=false:=h 2 (by decide)
 have k3:(wd.toList == [116,105,99,107])=false:=h 3 (by decide)
 have k4:(wd.toList == [103,111])=false:=h 4 (by decide)
 have k5:(wd.toList == [108,111,115,101])=false:=h 5 (by decide)
 have k6:(wd.toList == [116,119,105,99,101])=false:=h 6 (by decide)
 have k7:(wd.toList == [108,105,110,107])=false:=h 7 (by decide)
 have k8:(wd.toList == [98,114,101,97,107])=false:=h 8 (by decide)
 have k9:(wd.toList == [99,117,116])=false:=h 9 (by decide)
 have k10:(wd.toList == [100,111,119,110])=false:=h 10 (by decide)
 have k11:(wd.toList == [117,112])=false:=h 11 (by decide)
 have k12:(wd.toList == [99,104,101,99,107])=false:=h 12 (by decide)
 have k13:(wd.toList == [97,108,108])=false:=h 13 (by decide)
 have k14:(wd.toList == [102,108,121])=false:=h 14 (by decide)
 have k15:(wd.toList == [115,116,97,116,101])=false:=h 15 (by decide)
 have k16:(wd.toList == [108,101,97,100])=false:=h 16 (by decide)
 have k17:(wd.toList == [105,115])=false:=h 17 (by decide)
 have k18:(wd.toList == [101,118,101,110,116,115])=false:=h 18 (by decide)
 have HC:=hid hc
 have HK:=hid hk
 have hbx:=bxL_new w wd (.slice (some ⟨g,o,none⟩) 2 cap)
 have hbW:Below w.heap.size w (bxW w wd (.slice (some ⟨g,o,none⟩) 2 cap)):=(Below.refl _ _).alloc (Nat.le_refl _) _
 have e0:=cell_later hbW h0
 have e1:=cell_later hbW h1
 obtain ⟨W,HW⟩:∃ W,Hid (bxW w wd (.slice (some ⟨g,o,none⟩) 2 cap)=W):=⟨_,rfl⟩
 have hW:w.alloc (.cells #[.string wd,.slice (some ⟨g,o,none⟩) 2 cap] 36)=W:=HW.out
 rw [show w.alloc (.cells #[.string wd,.slice (some ⟨g,o,none⟩) 2 cap] 36)=bxW w wd (.slice (some ⟨g,o,none⟩) 2 cap) from rfl,HW.out] at hbx
 rw [HW.out] at e0 e1 HC
 obtain ⟨d0,d1⟩:=hbx
 clear hc hk h h0 h1 hbW
 go_enter Tryz.func16,Tryz.ntmps16
 go_wp2_with fail
 go_region_held3 (fun U=>U.cell? ⟨w.heap.size,0,none⟩=some (.string wd)∧U.cell? ⟨w.heap.size,1,none⟩=some (.slice (some ⟨g,o,none⟩) 2 cap)∧U.cell? ⟨g,o,none⟩=some (.int .i64 a)∧U.cell? ⟨g,o+1,none⟩=some (.int .i64 b)) (first|exact hk2|exact hk3|go_keep) (first
  | (go_at_call 22; (with_reducible refine HC.out.mono ?_); rintro e w2 ⟨rfl,hR⟩; have HR:=hid hR; have hk1:=HK.out _ hR; have hk2:=And.intro hk1.1.1 (And.intro hk1.1.2 hk1.2); clear hk1; have HOr:=hid (orOk_any c hc9 w2); clear hR)
  | (go_at_call 15; (with_reducible refine HOr.out.mono ?_); rintro e w3 ⟨rfl,hb3⟩; have HB3:=hid hb3; have hk3:=And.intro (cell_later hb3 hk2.1) (And.intro (cell_later hb3 hk2.2.1) (And.intro (cell_later hb3 hk2.2.2.1) (cell_later hb3 hk2.2.2.2))); clear hb3))
 go_wp2_with fail
 go_ret
 exact ⟨rfl,w2,HR.out,HB3.out⟩
theorem an2_any (h:IsNm wd 2) (h0:w.cell? ⟨g,o,none⟩=some (.int .i64 a)) (h1:w.cell? ⟨g,o+1,none⟩=some (.int .i64 b)) (hc9:c≤9)
  (hc:Calls Tryz.prog 23 #[.pointer (some ⟨xb,0,none⟩),.int .i64 a,.int .i64 b] (bxW w wd (.slice (some ⟨g,o,none⟩) 2 cap)).drew fun e w'=>e=.returned (.int .i64 (c:Int))∧R w')
  (hk:∀ W,R W→BxL w W wd (.slice (some ⟨g,o,none⟩) 2 cap)∧W.cell? ⟨g,o,none⟩=some (.int .i64 a)∧W.cell? ⟨g,o+1,none⟩=some (.int .i64 b)) :
  Calls Tryz.prog 16 #[.pointer (some ⟨xb,0,none⟩),.agg #[.string wd,.slice (some ⟨g,o,none⟩) 2 cap]] w fun e w'=>e=.returned (.string (bB (sayO (c,[111,107]))))∧∃ w1,R w1∧Below w1.heap.size w1 w':=by
 have k0:(wd.toList == [115,105,116,101,115])=false:=h 0 (by decide)
 have k1:(wd.toList == [98,101,103,105,110])=false:=h 1 (by decide)
 have k2:(wd.toList == [114,101,102,117,115,101])=true:=h 2 (by decide)
 have k3:(wd.toList == [116,105,99,107])=false:=h 3 (by decide)
 have k4:(wd.toList == [103,111])=false:=h 4 (by decide)
 have k5:(wd.toList == [108,111,115,101])=false:=h 5 (by decide)
 have k6:(wd.toList == [116,119,105,99,101])=false:=h 6 (by decide)
 have k7:(wd.toList == [108,105,110,107])=false:=h 7 (by decide)
 have k8:(wd.toList == [98,114,101,97,107])=false:=h 8 (by decide)
 have k9:(wd.toList == [99,117,116])=false:=h 9 (by decide)
 have k10:(wd.toList == [100,111,119,110])=false:=h 10 (by decide)
 have k11:(wd.toList == [117,112])=false:=h 11 (by decide)
 have k12:(wd.toList == [99,104,101,99,107])=false:=h 12 (by decide)
 have k13:(wd.toList == [97,108,108])=false:=h 13 (by decide)
 have k14:(wd.toList == [102,108,121])=false:=h 14 (by decide)
 have k15:(wd.toList == [115,116,97,116,101])=false:=h 15 (by decide)
 have k16:(wd.toList == [108,101,97,100])=false:=h 16 (by decide)
 have k17:(wd.toList == [105,115])=false:=h 17 (by decide)
 have k18:(wd.toList == [101,118,101,110,116,115])=false:=h 18 (by decide)
 have HC:=hid hc
 have HK:=hid hk
 have hbx:=bxL_new w wd (.slice (some ⟨g,o,none⟩) 2 cap)
 have hbW:Below w.heap.size w (bxW w wd (.slice (some ⟨g,o,none⟩) 2 cap)):=(Below.refl _ _).alloc (Nat.le_refl _) _
 have e0:=cell_later hbW h0
 have e1:=cell_later hbW h1
 obtain ⟨W,HW⟩:∃ W,Hid (bxW w wd (.slice (some ⟨g,o,none⟩) 2 cap)=W):=⟨_,rfl⟩
 have hW:w.alloc (.cells #[.string wd,.slice (some ⟨g,o,none⟩) 2 cap] 36)=W:=HW.out
 rw [show w.alloc (.cells #[.string wd,.slice (some ⟨g,o,none⟩) 2 cap] 36)=bxW w wd (.slice (some ⟨g,o,none⟩) 2 cap) from rfl,HW.out] at hbx
 rw [HW.out] at e0 e1 HC
 obtain ⟨d0,d1⟩:=hbx
 clear hc hk h h0 h1 hbW
 go_enter Tryz.func16,Tryz.ntmps16
 go_wp2_with fail
 go_region_held3 (fun U=>U.cell? ⟨w.heap.size,0,none⟩=some (.string wd)∧U.cell? ⟨w.heap.size,1,none⟩=some (.slice (some ⟨g,o,none⟩) 2 cap)∧U.cell? ⟨g,o,none⟩=some (.int .i64 a)∧U.cell? ⟨g,o+1,none⟩=some (.int .i64 b)) (first|exact hk2|exact hk3|go_keep) (first
  | (go_at_call 23; (with_reducible refine HC.out.mono ?_); rintro e w2 ⟨rfl,hR⟩; have HR:=hid hR; have hk1:=HK.out _ hR; have hk2:=And.intro hk1.1.1 (And.intro hk1.1.2 hk1.2); clear hk1; have HOr:=hid (orOk_any c hc9 w2); clear hR)
  | (go_at_call 15; (with_reducible refine HOr.out.mono ?_); rintro e w3 ⟨rfl,hb3⟩; have HB3:=hid hb3; have hk3:=And.intro (cell_later hb3 hk2.1) (And.intro (cell_later hb3 hk2.2.1) (And.intro (cell_later hb3 hk2.2.2.1) (cell_later hb3 hk2.2.2.2))); clear hb3))
 go_wp2_with fail
 go_ret
 exact ⟨rfl,w2,HR.out,HB3.out⟩
theorem an7_any (h:IsNm wd 7) (h0:w.cell? ⟨g,o,none⟩=some (.int .i64 a)) (h1:w.cell? ⟨g,o+1,none⟩=some (.int .i64 b)) (hc9:c≤9)
  (hc:Calls Tryz.prog 30 #[.pointer (some ⟨xb,0,none⟩),.int .i64 a,.int .i64 b,.bool true] (bxW w wd (.slice (some ⟨g,o,none⟩) 2 cap)).drew fun e w'=>e=.returned (.int .i64 (c:Int))∧R w')
  (hk:∀ W,R W→BxL w W wd (.slice (some ⟨g,o,none⟩) 2 cap)∧W.cell? ⟨g,o,none⟩=some (.int .i64 a)∧W.cell? ⟨g,o+1,none⟩=some (.int .i64 b)) :
  Calls Tryz.prog 16 #[.pointer (some ⟨xb,0,none⟩),.agg #[.string wd,.slice (some ⟨g,o,none⟩) 2 cap]] w fun e w'=>e=.returned (.string (bB (sayO (c,[111,107]))))∧∃ w1,R w1∧Below w1.heap.size w1 w':=by
 have k0:(wd.toList == [115,105,116,101,115])=false:=h 0 (by decide)
 have k1:(wd.toList == [98,101,103,105,110])=false:=h 1 (by decide)
 have k2:(wd.toList == [114,101,102,117,115,101])=false:=h 2 (by decide)
 have k3:(wd.toList == [116,105,99,107])=false:=h 3 (by decide)
 have k4:(wd.toList == [103,111])=false:=h 4 (by decide)
 have k5:(wd.toList == [108,111,115,101])=false:=h 5 (by decide)
 have k6:(wd.toList == [116,119,105,99,101])=false:=h 6 (by decide)
 have k7:(wd.toList == [108,105,110,107])=true:=h 7 (by decide)
 have k8:(wd.toList == [98,114,101,97,107])=false:=h 8 (by decide)
 have k9:(wd.toList == [99,117,116])=false:=h 9 (by decide)
 have k10:(wd.toList == [100,111,119,110])=false:=h 10 (by decide)
 have k11:(wd.toList == [117,112])=false:=h 11 (by decide)
 have k12:(wd.toList == [99,104,101,99,107])=false:=h 12 (by decide)
 have k13:(wd.toList == [97,108,108])=false:=h 13 (by decide)
 have k14:(wd.toList == [102,108,121])=false:=h 14 (by decide)
 have k15:(wd.toList == [115,116,97,116,101])=false:=h 15 (by decide)
 have k16:(wd.toList == [108,101,97,100])=false:=h 16 (by decide)
 have k17:(wd.toList == [105,115])=false:=h 17 (by decide)
 have k18:(wd.toList == [101,118,101,110,116,115])=false:=h 18 (by decide)
 have HC:=hid hc
 have HK:=hid hk
 have hbx:=bxL_new w wd (.slice (some ⟨g,o,none⟩) 2 cap)
 have hbW:Below w.heap.size w (bxW w wd (.slice (some ⟨g,o,none⟩) 2 cap)):=(Below.refl _ _).alloc (Nat.le_refl _) _
 have e0:=cell_later hbW h0
 have e1:=cell_later hbW h1
 obtain ⟨W,HW⟩:∃ W,Hid (bxW w wd (.slice (some ⟨g,o,none⟩) 2 cap)=W):=⟨_,rfl⟩
 have hW:w.alloc (.cells #[.string wd,.slice (some ⟨g,o,none⟩) 2 cap] 36)=W:=HW.out
 rw [show w.alloc (.cells #[.string wd,.slice (some ⟨g,o,none⟩) 2 cap] 36)=bxW w wd (.slice (some ⟨g,o,none⟩) 2 cap) from rfl,HW.out] at hbx
 rw [HW.out] at e0 e1 HC
 obtain ⟨d0,d1⟩:=hbx
 clear hc hk h h0 h1 hbW
 go_enter Tryz.func16,Tryz.ntmps16
 go_wp2_with fail
 go_region_held3 (fun U=>U.cell? ⟨w.heap.size,0,none⟩=some (.string wd)∧U.cell? ⟨w.heap.size,1,none⟩=some (.slice (some ⟨g,o,none⟩) 2 cap)∧U.cell? ⟨g,o,none⟩=some (.int .i64 a)∧U.cell? ⟨g,o+1,none⟩=some (.int .i64 b)) (first|exact hk2|exact hk3|go_keep) (first
  | (go_at_call 30; (with_reducible refine HC.out.mono ?_); rintro e w2 ⟨rfl,hR⟩; have HR:=hid hR; have hk1:=HK.out _ hR; have hk2:=And.intro hk1.1.1 (And.intro hk1.1.2 hk1.2); clear hk1; have HOr:=hid (orOk_any c hc9 w2); clear hR)
  | (go_at_call 15; (with_reducible refine HOr.out.mono ?_); rintro e w3 ⟨rfl,hb3⟩; have HB3:=hid hb3; have hk3:=And.intro (cell_later hb3 hk2.1) (And.intro (cell_later hb3 hk2.2.1) (And.intro (cell_later hb3 hk2.2.2.1) (cell_later hb3 hk2.2.2.2))); clear hb3))
 go_wp2_with fail
 go_ret
 exact ⟨rfl,w2,HR.out,HB3.out⟩
theorem an8_any (h:IsNm wd 8) (h0:w.cell? ⟨g,o,none⟩=some (.int .i64 a)) (h1:w.cell? ⟨g,o+1,none⟩=some (.int .i64 b)) (hc9:c≤9)
  (hc:Calls Tryz.prog 30 #[.pointer (some ⟨xb,0,none⟩),.int .i64 a,.int .i64 b,.bool false] (bxW w wd (.slice (some ⟨g,o,none⟩) 2 cap)).drew fun e w'=>e=.returned (.int .i64 (c:Int))∧R w')
  (hk:∀ W,R W→BxL w W wd (.slice (some ⟨g,o,none⟩) 2 cap)∧W.cell? ⟨g,o,none⟩=some (.int .i64 a)∧W.cell? ⟨g,o+1,none⟩=some (.int .i64 b)) :
  Calls Tryz.prog 16 #[.pointer (some ⟨xb,0,none⟩),.agg #[.string wd,.slice (some ⟨g,o,none⟩) 2 cap]] w fun e w'=>e=.returned (.string (bB (sayO (c,[111,107]))))∧∃ w1,R w1∧Below w1.heap.size w1 w':=by
 have k0:(wd.toList == [115,105,116,101,115])=false:=h 0 (by decide)
 have k1:(wd.toList == [98,101,103,105,110])=false:=h 1 (by decide)
 have k2:(wd.toList == [114,101,102,117,115,101])=false:=h 2 (by decide)
 have k3:(wd.toList == [116,105,99,107])=false:=h 3 (by decide)
 have k4:(wd.toList == [103,111])=false:=h 4 (by decide)
 have k5:(wd.toList == [108,111,115,101])=false:=h 5 (by decide)
 have k6:(wd.toList == [116,119,105,99,101])=false:=h 6 (by decide)
 have k7:(wd.toList == [108,105,110,107])=false:=h 7 (by decide)
 have k8:(wd.toList == [98,114,101,97,107])=true:=h 8 (by decide)
 have k9:(wd.toList == [99,117,116])=false:=h 9 (by decide)
 have k10:(wd.toList == [100,111,119,110])=false:=h 10 (by decide)
 have k11:(wd.toList == [117,112])=false:=h 11 (by decide)
 have k12:(wd.toList == [99,104,101,99,107])=false:=h 12 (by decide)
 have k13:(wd.toList == [97,108,108])=false:=h 13 (by decide)
 have k14:(wd.toList == [102,108,121])=false:=h 14 (by decide)
 have k15:(wd.toList == [115,116,97,116,101])=false:=h 15 (by decide)
 have k16:(wd.toList == [108,101,97,100])=false:=h 16 (by decide)
 have k17:(wd.toList == [105,115])=false:=h 17 (by decide)
 have k18:(wd.toList == [101,118,101,110,116,115])=false:=h 18 (by decide)
 have HC:=hid hc
 have HK:=hid hk
 have hbx:=bxL_new w wd (.slice (some ⟨g,o,none⟩) 2 cap)
 have hbW:Below w.heap.size w (bxW w wd (.slice (some ⟨g,o,none⟩) 2 cap)):=(Below.refl _ _).alloc (Nat.le_refl _) _
 have e0:=cell_later hbW h0
 have e1:=cell_later hbW h1
 obtain ⟨W,HW⟩:∃ W,Hid (bxW w wd (.slice (some ⟨g,o,none⟩) 2 cap)=W):=⟨_,rfl⟩
 have hW:w.alloc (.cells #[.string wd,.slice (some ⟨g,o,none⟩) 2 cap] 36)=W:=HW.out
 rw [show w.alloc (.cells #[.string wd,.slice (some ⟨g,o,none⟩) 2 cap] 36)=bxW w wd (.slice (some ⟨g,o,none⟩) 2 cap) from rfl,HW.out] at hbx
 rw [HW.out] at e0 e1 HC
 obtain ⟨d0,d1⟩:=hbx
 clear hc hk h h0 h1 hbW
 go_enter Tryz.func16,Tryz.ntmps16
 go_wp2_with fail
 go_region_held3 (fun U=>U.cell? ⟨w.heap.size,0,none⟩=some (.string wd)∧U.cell? ⟨w.heap.size,1,none⟩=some (.slice (some ⟨g,o,none⟩) 2 cap)∧U.cell? ⟨g,o,none⟩=some (.int .i64 a)∧U.cell? ⟨g,o+1,none⟩=some (.int .i64 b)) (first|exact hk2|exact hk3|go_keep) (first
  | (go_at_call 30; (with_reducible refine HC.out.mono ?_); rintro e w2 ⟨rfl,hR⟩; have HR:=hid hR; have hk1:=HK.out _ hR; have hk2:=And.intro hk1.1.1 (And.intro hk1.1.2 hk1.2); clear hk1; have HOr:=hid (orOk_any c hc9 w2); clear hR)
  | (go_at_call 15; (with_reducible refine HOr.out.mono ?_); rintro e w3 ⟨rfl,hb3⟩; have HB3:=hid hb3; have hk3:=And.intro (cell_later hb3 hk2.1) (And.intro (cell_later hb3 hk2.2.1) (And.intro (cell_later hb3 hk2.2.2.1) (cell_later hb3 hk2.2.2.2))); clear hb3))
 go_wp2_with fail
 go_ret
 exact ⟨rfl,w2,HR.out,HB3.out⟩
theorem an9_any (h:IsNm wd 9) (h0:w.cell? ⟨g,o,none⟩=some (.int .i64 a)) (h1:w.cell? ⟨g,o+1,none⟩=some (.int .i64 b)) (hc9:c≤9)
  (hc:Calls Tryz.prog 31 #[.pointer (some ⟨xb,0,none⟩),.int .i64 a,.int .i64 b] (bxW w wd (.slice (some ⟨g,o,none⟩) 2 cap)).drew fun e w'=>e=.returned (.int .i64 (c:Int))∧R w')
  (hk:∀ W,R W→BxL w W wd (.slice (some ⟨g,o,none⟩) 2 cap)∧W.cell? ⟨g,o,none⟩=some (.int .i64 a)∧W.cell? ⟨g,o+1,none⟩=some (.int .i64 b)) :
  Calls Tryz.prog 16 #[.pointer (some ⟨xb,0,none⟩),.agg #[.string wd,.slice (some ⟨g,o,none⟩) 2 cap]] w fun e w'=>e=.returned (.string (bB (sayO (c,[111,107]))))∧∃ w1,R w1∧Below w1.heap.size w1 w':=by
 have k0:(wd.toList == [115,105,116,101,115])=false:=h 0 (by decide)
 have k1:(wd.toList == [98,101,103,105,110])=false:=h 1 (by decide)
 have k2:(wd.toList == [114,101,102,117,115,101])=false:=h 2 (by decide)
 have k3:(wd.toList == [116,105,99,107])=false:=h 3 (by decide)
 have k4:(wd.toList == [103,111])=false:=h 4 (by decide)
 have k5:(wd.toList == [108,111,115,101])=false:=h 5 (by decide)
 have k6:(wd.toList == [116,119,105,99,101])=false:=h 6 (by decide)
 have k7:(wd.toList == [108,105,110,107])=false:=h 7 (by decide)
 have k8:(wd.toList == [98,114,101,97,107])=false:=h 8 (by decide)
 have k9:(wd.toList == [99,117,116])=true:=h 9 (by decide)
 have k10:(wd.toList == [100,111,119,110])=false:=h 10 (by decide)
 have k11:(wd.toList == [117,112])=false:=h 11 (by decide)
 have k12:(wd.toList == [99,104,101,99,107])=false:=h 12 (by decide)
 have k13:(wd.toList == [97,108,108])=false:=h 13 (by decide)
 have k14:(wd.toList == [102,108,121])=false:=h 14 (by decide)
 have k15:(wd.toList == [115,116,97,116,101])=false:=h 15 (by decide)
 have k16:(wd.toList == [108,101,97,100])=false:=h 16 (by decide)
 have k17:(wd.toList == [105,115])=false:=h 17 (by decide)
 have k18:(wd.toList == [101,118,101,110,116,115])=false:=h 18 (by decide)
 have HC:=hid hc
 have HK:=hid hk
 have hbx:=bxL_new w wd (.slice (some ⟨g,o,none⟩) 2 cap)
 have hbW:Below w.heap.size w (bxW w wd (.slice (some ⟨g,o,none⟩) 2 cap)):=(Below.refl _ _).alloc (Nat.le_refl _) _
 have e0:=cell_later hbW h0
 have e1:=cell_later hbW h1
 obtain ⟨W,HW⟩:∃ W,Hid (bxW w wd (.slice (some ⟨g,o,none⟩) 2 cap)=W):=⟨_,rfl⟩
 have hW:w.alloc (.cells #[.string wd,.slice (some ⟨g,o,none⟩) 2 cap] 36)=W:=HW.out
 rw [show w.alloc (.cells #[.string wd,.slice (some ⟨g,o,none⟩) 2 cap] 36)=bxW w wd (.slice (some ⟨g,o,none⟩) 2 cap) from rfl,HW.out] at hbx
 rw [HW.out] at e0 e1 HC
 obtain ⟨d0,d1⟩:=hbx
 clear hc hk h h0 h1 hbW
 go_enter Tryz.func16,Tryz.ntmps16
 go_wp2_with fail
 go_region_held3 (fun U=>U.cell? ⟨w.heap.size,0,none⟩=some (.string wd)∧U.cell? ⟨w.heap.size,1,none⟩=some (.slice (some ⟨g,o,none⟩) 2 cap)∧U.cell? ⟨g,o,none⟩=some (.int .i64 a)∧U.cell? ⟨g,o+1,none⟩=some (.int .i64 b)) (first|exact hk2|exact hk3|go_keep) (first
  | (go_at_call 31; (with_reducible refine HC.out.mono ?_); rintro e w2 ⟨rfl,hR⟩; have HR:=hid hR; have hk1:=HK.out _ hR; have hk2:=And.intro hk1.1.1 (And.intro hk1.1.2 hk1.2); clear hk1; have HOr:=hid (orOk_any c hc9 w2); clear hR)
  | (go_at_call 15; (with_reducible refine HOr.out.mono ?_); rintro e w3 ⟨rfl,hb3⟩; have HB3:=hid hb3; have hk3:=And.intro (cell_later hb3 hk2.1) (And.intro (cell_later hb3 hk2.2.1) (And.intro (cell_later hb3 hk2.2.2.1) (cell_later hb3 hk2.2.2.2))); clear hb3))
 go_wp2_with fail
 go_ret
 exact ⟨rfl,w2,HR.out,HB3.out⟩
theorem an3_any (h:IsNm wd 3) (h0:w.cell? ⟨g,o,none⟩=some (.int .i64 a)) (hc9:c≤9)
  (hc:Calls Tryz.prog 24 #[.pointer (some ⟨xb,0,none⟩),.int .i64 a] (bxW w wd (.slice (some ⟨g,o,none⟩) 1 cap)) fun e w'=>e=.returned (.int .i64 (c:Int))∧R w') :
  Calls Tryz.prog 16 #[.pointer (some ⟨xb,0,none⟩),.agg #[.string wd,.slice (some ⟨g,o,none⟩) 1 cap]] w fun e w'=>e=.returned (.string (bB (sayO (c,[111,107]))))∧∃ w1,R w1∧Below w1.heap.size w1 w':=by
 have k0:(wd.toList == [115,105,116,101,115])=false:=h 0 (by decide)
 have k1:(wd.toList == [98,101,103,105,110])=false:=h 1 (by decide)
 have k2:(wd.toList == [114,101,102,117,115,101])=false:=h 2 (by decide)
 have k3:(wd.toList == [116,105,99,107])=true:=h 3 (by decide)
 have k4:(wd.toList == [103,111])=false:=h 4 (by decide)
 have k5:(wd.toList == [108,111,115,101])=false:=h 5 (by decide)
 have k6:(wd.toList == [116,119,105,99,101])=false:=h 6 (by decide)
 have k7:(wd.toList == [108,105,110,107])=false:=h 7 (by decide)
 have k8:(wd.toList == [98,114,101,97,107])=false:=h 8 (by decide)
 have k9:(wd.toList == [99,117,116])=false:=h 9 (by decide)
 have k10:(wd.toList == [100,111,119,110])=false:=h 10 (by decide)
 have k11:(wd.toList == [117,112])=false:=h 11 (by decide)
 have k12:(wd.toList == [99,104,101,99,107])=false:=h 12 (by decide)
 have k13:(wd.toList == [97,108,108])=false:=h 13 (by decide)
 have k14:(wd.toList == [102,108,121])=false:=h 14 (by decide)
 have k15:(wd.toList == [115,116,97,116,101])=false:=h 15 (by decide)
 have k16:(wd.toList == [108,101,97,100])=false:=h 16 (by decide)
 have k17:(wd.toList == [105,115])=false:=h 17 (by decide)
 have k18:(wd.toList == [101,118,101,110,116,115])=false:=h 18 (by decide)
 have HC:=hid hc
 have hbx:=bxL_new w wd (.slice (some ⟨g,o,none⟩) 1 cap)
 have hbW:Below w.heap.size w (bxW w wd (.slice (some ⟨g,o,none⟩) 1 cap)):=(Below.refl _ _).alloc (Nat.le_refl _) _
 have e0:=cell_later hbW h0
 obtain ⟨W,HW⟩:∃ W,Hid (bxW w wd (.slice (some ⟨g,o,none⟩) 1 cap)=W):=⟨_,rfl⟩
 have hW:w.alloc (.cells #[.string wd,.slice (some ⟨g,o,none⟩) 1 cap] 36)=W:=HW.out
 rw [show w.alloc (.cells #[.string wd,.slice (some ⟨g,o,none⟩) 1 cap] 36)=bxW w wd (.slice (some ⟨g,o,none⟩) 1 cap) from rfl,HW.out] at hbx
 rw [HW.out] at e0 HC
 obtain ⟨d0,d1⟩:=hbx
 clear hc h h0 hbW
 go_enter Tryz.func16,Tryz.ntmps16
 go_wp2_with fail
 refine HC.out.mono ?_
 rintro e w2 ⟨rfl,hR⟩
 have HR:=hid hR
 have HOr:=hid (orOk_any c hc9 w2)
 clear hR
 go_wp2_with fail
 refine HOr.out.mono ?_
 rintro e w3 ⟨rfl,hb3⟩
 have HB3:=hid hb3
 clear hb3
 go_wp2_with fail
 go_ret
 exact ⟨rfl,w2,HR.out,HB3.out⟩
theorem an10_any (h:IsNm wd 10) (h0:w.cell? ⟨g,o,none⟩=some (.int .i64 a)) (hc9:c≤9)
  (hc:Calls Tryz.prog 25 #[.pointer (some ⟨xb,0,none⟩),.int .i64 a] (bxW w wd (.slice (some ⟨g,o,none⟩) 1 cap)) fun e w'=>e=.returned (.int .i64 (c:Int))∧R w') :
  Calls Tryz.prog 16 #[.pointer (some ⟨xb,0,none⟩),.agg #[.string wd,.slice (some ⟨g,o,none⟩) 1 cap]] w fun e w'=>e=.returned (.string (bB (sayO (c,[111,107]))))∧∃ w1,R w1∧Below w1.heap.size w1 w':=by
 have k0:(wd.toList == [115,105,116,101,115])=false:=h 0 (by decide)
 have k1:(wd.toList == [98,101,103,105,110])=false:=h 1 (by decide)
 have k2:(wd.toList == [114,101,102,117,115,101])=false:=h 2 (by decide)
 have k3:(wd.toList == [116,105,99,107])=false:=h 3 (by decide)
 have k4:(wd.toList == [103,111])=false:=h 4 (by decide)
 have k5:(wd.toList == [108,111,115,101])=false:=h 5 (by decide)
 have k6:(wd.toList == [116,119,105,99,101])=false:=h 6 (by decide)
 have k7:(wd.toList == [108,105,110,107])=false:=h 7 (by decide)
 have k8:(wd.toList == [98,114,101,97,107])=false:=h 8 (by decide)
 have k9:(wd.toList == [99,117,116])=false:=h 9 (by decide)
 have k10:(wd.toList == [100,111,119,110])=true:=h 10 (by decide)
 have k11:(wd.toList == [117,112])=false:=h 11 (by decide)
 have k12:(wd.toList == [99,104,101,99,107])=false:=h 12 (by decide)
 have k13:(wd.toList == [97,108,108])=false:=h 13 (by decide)
 have k14:(wd.toList == [102,108,121])=false:=h 14 (by decide)
 have k15:(wd.toList == [115,116,97,116,101])=false:=h 15 (by decide)
 have k16:(wd.toList == [108,101,97,100])=false:=h 16 (by decide)
 have k17:(wd.toList == [105,115])=false:=h 17 (by decide)
 have k18:(wd.toList == [101,118,101,110,116,115])=false:=h 18 (by decide)
 have HC:=hid hc
 have hbx:=bxL_new w wd (.slice (some ⟨g,o,none⟩) 1 cap)
 have hbW:Below w.heap.size w (bxW w wd (.slice (some ⟨g,o,none⟩) 1 cap)):=(Below.refl _ _).alloc (Nat.le_refl _) _
 have e0:=cell_later hbW h0
 obtain ⟨W,HW⟩:∃ W,Hid (bxW w wd (.slice (some ⟨g,o,none⟩) 1 cap)=W):=⟨_,rfl⟩
 have hW:w.alloc (.cells #[.string wd,.slice (some ⟨g,o,none⟩) 1 cap] 36)=W:=HW.out
 rw [show w.alloc (.cells #[.string wd,.slice (some ⟨g,o,none⟩) 1 cap] 36)=bxW w wd (.slice (some ⟨g,o,none⟩) 1 cap) from rfl,HW.out] at hbx
 rw [HW.out] at e0 HC
 obtain ⟨d0,d1⟩:=hbx
 clear hc h h0 hbW
 go_enter Tryz.func16,Tryz.ntmps16
 go_wp2_with fail
 refine HC.out.mono ?_
 rintro e w2 ⟨rfl,hR⟩
 have HR:=hid hR
 have HOr:=hid (orOk_any c hc9 w2)
 clear hR
 go_wp2_with fail
 refine HOr.out.mono ?_
 rintro e w3 ⟨rfl,hb3⟩
 have HB3:=hid hb3
 clear hb3
 go_wp2_with fail
 go_ret
 exact ⟨rfl,w2,HR.out,HB3.out⟩
theorem an11_any (h:IsNm wd 11) (h0:w.cell? ⟨g,o,none⟩=some (.int .i64 a)) (hc9:c≤9)
  (hc:Calls Tryz.prog 26 #[.pointer (some ⟨xb,0,none⟩),.int .i64 a] (bxW w wd (.slice (some ⟨g,o,none⟩) 1 cap)) fun e w'=>e=.returned (.int .i64 (c:Int))∧R w') :
  Calls Tryz.prog 16 #[.pointer (some ⟨xb,0,none⟩),.agg #[.string wd,.slice (some ⟨g,o,none⟩) 1 cap]] w fun e w'=>e=.returned (.string (bB (sayO (c,[111,107]))))∧∃ w1,R w1∧Below w1.heap.size w1 w':=by
 have k0:(wd.toList == [115,105,116,101,115])=false:=h 0 (by decide)
 have k1:(wd.toList == [98,101,103,105,110])=false:=h 1 (by decide)
 have k2:(wd.toList == [114,101,102,117,115,101])=false:=h 2 (by decide)
 have k3:(wd.toList == [116,105,99,107])=false:=h 3 (by decide)
 have k4:(wd.toList == [103,111])=false:=h 4 (by decide)
 have k5:(wd.toList == [108,111,115,101])=false:=h 5 (by decide)
 have k6:(wd.toList == [116,119,105,99,101])=false:=h 6 (by decide)
 have k7:(wd.toList == [108,105,110,107])=false:=h 7 (by decide)
 have k8:(wd.toList == [98,114,101,97,107])=false:=h 8 (by decide)
 have k9:(wd.toList == [99,117,116])=false:=h 9 (by decide)
 have k10:(wd.toList == [100,111,119,110])=false:=h 10 (by decide)
 have k11:(wd.toList == [117,112])=true:=h 11 (by decide)
 have k12:(wd.toList == [99,104,101,99,107])=false:=h 12 (by decide)
 have k13:(wd.toList == [97,108,108])=false:=h 13 (by decide)
 have k14:(wd.toList == [102,108,121])=false:=h 14 (by decide)
 have k15:(wd.toList == [115,116,97,116,101])=false:=h 15 (by decide)
 have k16:(wd.toList == [108,101,97,100])=false:=h 16 (by decide)
 have k17:(wd.toList == [105,115])=false:=h 17 (by decide)
 have k18:(wd.toList == [101,118,101,110,116,115])=false:=h 18 (by decide)
 have HC:=hid hc
 have hbx:=bxL_new w wd (.slice (some ⟨g,o,none⟩) 1 cap)
 have hbW:Below w.heap.size w (bxW w wd (.slice (some ⟨g,o,none⟩) 1 cap)):=(Below.refl _ _).alloc (Nat.le_refl _) _
 have e0:=cell_later hbW h0
 obtain ⟨W,HW⟩:∃ W,Hid (bxW w wd (.slice (some ⟨g,o,none⟩) 1 cap)=W):=⟨_,rfl⟩
 have hW:w.alloc (.cells #[.string wd,.slice (some ⟨g,o,none⟩) 1 cap] 36)=W:=HW.out
 rw [show w.alloc (.cells #[.string wd,.slice (some ⟨g,o,none⟩) 1 cap] 36)=bxW w wd (.slice (some ⟨g,o,none⟩) 1 cap) from rfl,HW.out] at hbx
 rw [HW.out] at e0 HC
 obtain ⟨d0,d1⟩:=hbx
 clear hc h h0 hbW
 go_enter Tryz.func16,Tryz.ntmps16
 go_wp2_with fail
 refine HC.out.mono ?_
 rintro e w2 ⟨rfl,hR⟩
 have HR:=hid hR
 have HOr:=hid (orOk_any c hc9 w2)
 clear hR
 go_wp2_with fail
 refine HOr.out.mono ?_
 rintro e w3 ⟨rfl,hb3⟩
 have HB3:=hid hb3
 clear hb3
 go_wp2_with fail
 go_ret
 exact ⟨rfl,w2,HR.out,HB3.out⟩
theorem an4_any (h:IsNm wd 4) (h0:w.cell? ⟨g,o,none⟩=some (.int .i64 a)) (hc9:c≤9)
  (hc:Calls Tryz.prog 27 #[.pointer (some ⟨xb,0,none⟩),.int .i64 a] (bxW w wd (.slice (some ⟨g,o,none⟩) 1 cap)) fun e w'=>e=.returned (.int .i64 (c:Int))∧R w') :
  Calls Tryz.prog 16 #[.pointer (some ⟨xb,0,none⟩),.agg #[.string wd,.slice (some ⟨g,o,none⟩) 1 cap]] w fun e w'=>e=.returned (.string (bB (sayO (c,[111,107]))))∧∃ w1,R w1∧Below w1.heap.size w1 w':=by
 have k0:(wd.toList == [115,105,116,101,115])=false:=h 0 (by decide)
 have k1:(wd.toList == [98,101,103,105,110])=false:=h 1 (by decide)
 have k2:(wd.toList == [114,101,102,117,115,101])=false:=h 2 (by decide)
 have k3:(wd.toList == [116,105,99,107])=false:=h 3 (by decide)
 have k4:(wd.toList == [103,111])=true:=h 4 (by decide)
 have k5:(wd.toList == [108,111,115,101])=false:=h 5 (by decide)
 have k6:(wd.toList == [116,119,105,99,101])=false:=h 6 (by decide)
 have k7:(wd.toList == [108,105,110,107])=false:=h 7 (by decide)
 have k8:(wd.toList == [98,114,101,97,107])=false:=h 8 (by decide)
 have k9:(wd.toList == [99,117,116])=false:=h 9 (by decide)
 have k10:(wd.toList == [100,111,119,110])=false:=h 10 (by decide)
 have k11:(wd.toList == [117,112])=false:=h 11 (by decide)
 have k12:(wd.toList == [99,104,101,99,107])=false:=h 12 (by decide)
 have k13:(wd.toList == [97,108,108])=false:=h 13 (by decide)
 have k14:(wd.toList == [102,108,121])=false:=h 14 (by decide)
 have k15:(wd.toList == [115,116,97,116,101])=false:=h 15 (by decide)
 have k16:(wd.toList == [108,101,97,100])=false:=h 16 (by decide)
 have k17:(wd.toList == [105,115])=false:=h 17 (by decide)
 have k18:(wd.toList == [101,118,101,110,116,115])=false:=h 18 (by decide)
 have HC:=hid hc
 have hbx:=bxL_new w wd (.slice (some ⟨g,o,none⟩) 1 cap)
 have hbW:Below w.heap.size w (bxW w wd (.slice (some ⟨g,o,none⟩) 1 cap)):=(Below.refl _ _).alloc (Nat.le_refl _) _
 have e0:=cell_later hbW h0
 obtain ⟨W,HW⟩:∃ W,Hid (bxW w wd (.slice (some ⟨g,o,none⟩) 1 cap)=W):=⟨_,rfl⟩
 have hW:w.alloc (.cells #[.string wd,.slice (some ⟨g,o,none⟩) 1 cap] 36)=W:=HW.out
 rw [show w.alloc (.cells #[.string wd,.slice (some ⟨g,o,none⟩) 1 cap] 36)=bxW w wd (.slice (some ⟨g,o,none⟩) 1 cap) from rfl,HW.out] at hbx
 rw [HW.out] at e0 HC
 obtain ⟨d0,d1⟩:=hbx
 clear hc h h0 hbW
 go_enter Tryz.func16,Tryz.ntmps16
 go_wp2_with fail
 refine HC.out.mono ?_
 rintro e w2 ⟨rfl,hR⟩
 have HR:=hid hR
 have HOr:=hid (orOk_any c hc9 w2)
 clear hR
 go_wp2_with fail
 refine HOr.out.mono ?_
 rintro e w3 ⟨rfl,hb3⟩
 have HB3:=hid hb3
 clear hb3
 go_wp2_with fail
 go_ret
 exact ⟨rfl,w2,HR.out,HB3.out⟩
theorem an5_any (h:IsNm wd 5) (h0:w.cell? ⟨g,o,none⟩=some (.int .i64 a)) (hc9:c≤9)
  (hc:Calls Tryz.prog 28 #[.pointer (some ⟨xb,0,none⟩),.int .i64 a] (bxW w wd (.slice (some ⟨g,o,none⟩) 1 cap)) fun e w'=>e=.returned (.int .i64 (c:Int))∧R w') :
  Calls Tryz.prog 16 #[.pointer (some ⟨xb,0,none⟩),.agg #[.string wd,.slice (some ⟨g,o,none⟩) 1 cap]] w fun e w'=>e=.returned (.string (bB (sayO (c,[111,107]))))∧∃ w1,R w1∧Below w1.heap.size w1 w':=by
 have k0:(wd.toList == [115,105,116,101,115])=false:=h 0 (by decide)
 have k1:(wd.toList == [98,101,103,105,110])=false:=h 1 (by decide)
 have k2:(wd.toList == [114,101,102,117,115,101])=false:=h 2 (by decide)
 have k3:(wd.toList == [116,105,99,107])=false:=h 3 (by decide)
 have k4:(wd.toList == [103,111])=false:=h 4 (by decide)
 have k5:(wd.toList == [108,111,115,101])=true:=h 5 (by decide)
 have k6:(wd.toList == [116,119,105,99,101])=false:=h 6 (by decide)
 have k7:(wd.toList == [108,105,110,107])=false:=h 7 (by decide)
 have k8:(wd.toList == [98,114,101,97,107])=false:=h 8 (by decide)
 have k9:(wd.toList == [99,117,116])=false:=h 9 (by decide)
 have k10:(wd.toList == [100,111,119,110])=false:=h 10 (by decide)
 have k11:(wd.toList == [117,112])=false:=h 11 (by decide)
 have k12:(wd.toList == [99,104,101,99,107])=false:=h 12 (by decide)
 have k13:(wd.toList == [97,108,108])=false:=h 13 (by decide)
 have k14:(wd.toList == [102,108,121])=false:=h 14 (by decide)
 have k15:(wd.toList == [115,116,97,116,101])=false:=h 15 (by decide)
 have k16:(wd.toList == [108,101,97,100])=false:=h 16 (by decide)
 have k17:(wd.toList == [105,115])=false:=h 17 (by decide)
 have k18:(wd.toList == [101,118,101,110,116,115])=false:=h 18 (by decide)
 have HC:=hid hc
 have hbx:=bxL_new w wd (.slice (some ⟨g,o,none⟩) 1 cap)
 have hbW:Below w.heap.size w (bxW w wd (.slice (some ⟨g,o,none⟩) 1 cap)):=(Below.refl _ _).alloc (Nat.le_refl _) _
 have e0:=cell_later hbW h0
 obtain ⟨W,HW⟩:∃ W,Hid (bxW w wd (.slice (some ⟨g,o,none⟩) 1 cap)=W):=⟨_,rfl⟩
 have hW:w.alloc (.cells #[.string wd,.slice (some ⟨g,o,none⟩) 1 cap] 36)=W:=HW.out
 rw [show w.alloc (.cells #[.string wd,.slice (some ⟨g,o,none⟩) 1 cap] 36)=bxW w wd (.slice (some ⟨g,o,none⟩) 1 cap) from rfl,HW.out] at hbx
 rw [HW.out] at e0 HC
 obtain ⟨d0,d1⟩:=hbx
 clear hc h h0 hbW
 go_enter Tryz.func16,Tryz.ntmps16
 go_wp2_with fail
 refine HC.out.mono ?_
 rintro e w2 ⟨rfl,hR⟩
 have HR:=hid hR
 have HOr:=hid (orOk_any c hc9 w2)
 clear hR
 go_wp2_with fail
 refine HOr.out.mono ?_
 rintro e w3 ⟨rfl,hb3⟩
 have HB3:=hid hb3
 clear hb3
 go_wp2_with fail
 go_ret
 exact ⟨rfl,w2,HR.out,HB3.out⟩
theorem an6_any (h:IsNm wd 6) (h0:w.cell? ⟨g,o,none⟩=some (.int .i64 a)) (hc9:c≤9)
  (hc:Calls Tryz.prog 29 #[.pointer (some ⟨xb,0,none⟩),.int .i64 a] (bxW w wd (.slice (some ⟨g,o,none⟩) 1 cap)) fun e w'=>e=.returned (.int .i64 (c:Int))∧R w') :
  Calls Tryz.prog 16 #[.pointer (some ⟨xb,0,none⟩),.agg #[.string wd,.slice (some ⟨g,o,none⟩) 1 cap]] w fun e w'=>e=.returned (.string (bB (sayO (c,[111,107]))))∧∃ w1,R w1∧Below w1.heap.size w1 w':=by
 have k0:(wd.toList == [115,105,116,101,115])=false:=h 0 (by decide)
 have k1:(wd.toList == [98,101,103,105,110])=false:=h 1 (by decide)
 have k2:(wd.toList == [114,101,102,117,115,101])=false:=h 2 (by decide)
 have k3:(wd.toList == [116,105,99,107])=false:=h 3 (by decide)
 have k4:(wd.toList == [103,111])=false:=h 4 (by decide)
 have k5:(wd.toList == [108,111,115,101])=false:=h 5 (by decide)
 have k6:(wd.toList == [116,119,105,99,101])=true:=h 6 (by decide)
 have k7:(wd.toList == [108,105,110,107])=false:=h 7 (by decide)
 have k8:(wd.toList == [98,114,101,97,107])=false:=h 8 (by decide)
 have k9:(wd.toList == [99,117,116])=false:=h 9 (by decide)
 have k10:(wd.toList == [100,111,119,110])=false:=h 10 (by decide)
 have k11:(wd.toList == [117,112])=false:=h 11 (by decide)
 have k12:(wd.toList == [99,104,101,99,107])=false:=h 12 (by decide)
 have k13:(wd.toList == [97,108,108])=false:=h 13 (by decide)
 have k14:(wd.toList == [102,108,121])=false:=h 14 (by decide)
 have k15:(wd.toList == [115,116,97,116,101])=false:=h 15 (by decide)
 have k16:(wd.toList == [108,101,97,100])=false:=h 16 (by decide)
 have k17:(wd.toList == [105,115])=false:=h 17 (by decide)
 have k18:(wd.toList == [101,118,101,110,116,115])=false:=h 18 (by decide)
 have HC:=hid hc
 have hbx:=bxL_new w wd (.slice (some ⟨g,o,none⟩) 1 cap)
 have hbW:Below w.heap.size w (bxW w wd (.slice (some ⟨g,o,none⟩) 1 cap)):=(Below.refl _ _).alloc (Nat.le_refl _) _
 have e0:=cell_later hbW h0
 obtain ⟨W,HW⟩:∃ W,Hid (bxW w wd (.slice (some ⟨g,o,none⟩) 1 cap)=W):=⟨_,rfl⟩
 have hW:w.alloc (.cells #[.string wd,.slice (some ⟨g,o,none⟩) 1 cap] 36)=W:=HW.out
 rw [show w.alloc (.cells #[.string wd,.slice (some ⟨g,o,none⟩) 1 cap] 36)=bxW w wd (.slice (some ⟨g,o,none⟩) 1 cap) from rfl,HW.out] at hbx
 rw [HW.out] at e0 HC
 obtain ⟨d0,d1⟩:=hbx
 clear hc h h0 hbW
 go_enter Tryz.func16,Tryz.ntmps16
 go_wp2_with fail
 refine HC.out.mono ?_
 rintro e w2 ⟨rfl,hR⟩
 have HR:=hid hR
 have HOr:=hid (orOk_any c hc9 w2)
 clear hR
 go_wp2_with fail
 refine HOr.out.mono ?_
 rintro e w3 ⟨rfl,hb3⟩
 have HB3:=hid hb3
 clear hb3
 go_wp2_with fail
 go_ret
 exact ⟨rfl,w2,HR.out,HB3.out⟩
end
end Go.Proofs.YtaehdgemkafinaaGreatDoor
