/-
  On the way to PRunsProof: L8.
-/
import Derived.Test.YtjcflddbaeiajacGreatDoorBt15
import Derived.Test.YtjcflddbaeiajacGreatDoorBt10
set_option maxHeartbeats 8000000
set_option maxRecDepth 100000
namespace Go.Proofs.YtjcflddbaeiajacGreatDoor
open Go.RowKit
section
variable {w:World} {lb id n cap:Nat} {deal att:Int} {aw:Option Addr} {st:ByteArray} {wait:Int} {vh:Value} {hs:List F9} {ph seen:Int}
structure HL (w W:World) (lb id n cap:Nat) (deal att:Int) (aw:Option Addr) (st:ByteArray) (wait:Int) (vh:Value) (hs:List F9) (ph seen:Int) (f:Nat) (k:Int) (y:Bool) (p1 p2 p3:Int):Prop where
 ld:RLd W lb id n cap deal att aw st wait vh hs ph seen
 fr:FIn w W f id deal k att y p1 p2 p3
 kp:Kept (In1 lb) w W
theorem HL.later {W V:World} {f:Nat} {k:Int} {y:Bool} {p1 p2 p3:Int} (h:HL w W lb id n cap deal att aw st wait vh hs ph seen f k y p1 p2 p3) (hb:Below W.heap.size W V):HL w V lb id n cap deal att aw st wait vh hs ph seen f k y p1 p2 p3 :=
 ⟨h.ld.later hb,h.fr.later hb,h.kp.trans (Kept.of_below hb)⟩
theorem HL.setSeen {W:World} {f:Nat} {k:Int} {y:Bool} {p1 p2 p3:Int} (h:HL w W lb id n cap deal att aw st wait vh hs ph seen f k y p1 p2 p3) (hlb:lb<w.heap.size) (x:Int):HL w (W.setCell ⟨lb,8,none⟩ (.int .i64 x)) lb id n cap deal att aw st wait vh hs ph x f k y p1 p2 p3 :=
 ⟨h.ld.setSeen x,⟨(heap_setCell_other _ _ _ _ (by show w.heap.size≠lb; omega)).trans h.fr.row⟩,h.kp.set1 8 _⟩
theorem rlhear_no (f:Nat) (k:Int) (p1 p2 p3 sn:Int) (h:RLd w lb id n cap deal att aw st k vh hs ph seen) (hl:hs.length≤100) (hk:k=2 ∨ k=4 ∨ k=6) (hf:f<n) (hx:fromL hs f=none) (hn7:n≤7) (hsn:(if k≠2∧seen<p2 then p2 else seen)=sn) :
  Calls Tryz.prog 122 #[.pointer (some ⟨lb,0,none⟩),frV f id deal k att false p1 p2 p3] w fun e w'=>∃ v,e=.returned v∧IsFr w' v (if k=2 then sentL id deal 7 att 3 true n else [])∧RLd w' lb id n cap deal att aw (if k=2 then stB 2 else stB 3) 0 vh hs ph sn∧Kept (In1 lb) w w':=by
 obtain ⟨W,HW⟩:∃ W,Hid (w.alloc (.cells #[.int .i64 (f:Int),.int .i64 (id:Int),.int .i64 deal,.int .i64 k,.int .i64 att,.bool false,.int .i64 p1,.int .i64 p2,.int .i64 p3] 144)=W):=⟨_,rfl⟩
 have HB:Hid (Below w.heap.size w W):=by rw [← HW.out]; exact (Below.refl _ _).alloc (Nat.le_refl _) _
 have hlbw:lb<w.heap.size:=row_ltJ h.row
 have HI:Hid (HL w W lb id n cap deal att aw st k vh hs ph seen f k false p1 p2 p3):=⟨h.later HB.out,by rw [← HW.out]; exact ⟨heap_alloc_new w _⟩,Kept.of_below HB.out⟩
 obtain ⟨b0,b1,b2,b3,b4,b5,b6,b7,b8⟩:=nine HI.out.fr.row
 obtain ⟨c0,c1,c2,c3,c4,c5,c6,c7,c8⟩:=HI.out.ld.cells
 have hW:=HW.out
 have e0:(k == 0)=false:=beq_eq_false_iff_ne.2 (by omega)
 have f7:¬ (n:Int)≤(f:Int):=by omega
 have HX:=hid hx
 clear h hx
 go_enter Tryz.func122,Tryz.ntmps122
 go_wp2_with fail
 go_quiet (fail)
 have HB2:=hid (below_drewN (Below.refl W.heap.size W) nq)
 generalize W.drewN nq=V at HB2 ⊢
 have HI2:=hid (HI.out.later HB2.out)
 clear b0 b1 b2 b3 b4 b5 b6 b7 b8 c0 c1 c2 c3 c4 c5 c6 c7 c8 HI HB2 hW HW HB e0 f7
 obtain ⟨b0,b1,b2,b3,b4,b5,b6,b7,b8⟩:=nine HI2.out.fr.row
 go_wp2_with fail
 refine (rlfrom_any lb id n cap deal att aw st k vh hs ph seen f _ HI2.out.ld (by omega)).mono ?_
 rw [HX.out,frO_none]
 simp only [Option.isSome]
 rintro e w1 ⟨rfl,hb1⟩
 have HI3:=hid ((HI2.out.later hb1).later ((Below.refl _ _).alloc (Nat.le_refl _) (.cells #[.int .i64 0,.int .i64 0,.int .i64 0,.int .i64 0,.int .i64 0,.bool false,.int .i64 0,.int .i64 0,.int .i64 0] 144)))
 clear hb1
 obtain ⟨X,HXw⟩:∃ X,Hid (w1.alloc (.cells #[.int .i64 0,.int .i64 0,.int .i64 0,.int .i64 0,.int .i64 0,.bool false,.int .i64 0,.int .i64 0,.int .i64 0] 144)=X):=⟨_,rfl⟩
 rw [HXw.out] at HI3
 clear b0 b1 b2 b3 b4 b5 b6 b7 b8 HI2
 obtain ⟨b0,b1,b2,b3,b4,b5,b6,b7,b8⟩:=nine HI3.out.fr.row
 obtain ⟨c0,c1,c2,c3,c4,c5,c6,c7,c8⟩:=HI3.out.ld.cells
 have z8:=HI3.out.ld.fz 8
 have HSn:=hid hsn
 clear hsn
 obtain ⟨bb,HBB⟩:∃ b:Bool,Hid (decide (k≠2∧seen<p2)=b):=⟨_,hid (Eq.refl _)⟩
 go_upto_region 13 with fail
 rw [HXw.out]
 go_cut [92] from 16 (fun s92 wx=>s92=.bool bb∧Below X.heap.size X wx)
 case first =>
  by_cases g1:k=2
  ·have hb:bb=false:=by rw [← HBB.out]; exact decide_eq_false (fun x=>x.1 g1)
   subst hb
   subst g1
   go_quiet (fail)
   go_wp2_with fail
   go_meet
   exact ⟨rfl,below_drewN (Below.refl _ _) _⟩
  ·have e1:(k != 2)=true:=bne_iff_ne.2 g1
   by_cases g2:seen<p2
   ·have hb:bb=true:=by rw [← HBB.out]; exact decide_eq_true ⟨g1,g2⟩
    subst hb
    go_quiet (fail)
    go_wp2_with fail
    go_meet
    exact ⟨rfl,below_drewN (Below.refl _ _) _⟩
   ·have hb:bb=false:=by rw [← HBB.out]; exact decide_eq_false (fun x=>g2 x.2)
    subst hb
    go_quiet (fail)
    go_wp2_with fail
    go_meet
    exact ⟨rfl,below_drewN (Below.refl _ _) _⟩
 obtain ⟨rfl,hbx⟩:=hcut
 rename_i wc
 have HI4:=hid (HI3.out.later hbx)
 clear hbx b0 b1 b2 b3 b4 b5 b6 b7 b8 c0 c1 c2 c3 c4 c5 c6 c7 c8 z8 HI3 HXw
 generalize wc=X2 at *
 obtain ⟨b0,b1,b2,b3,b4,b5,b6,b7,b8⟩:=nine HI4.out.fr.row
 obtain ⟨c0,c1,c2,c3,c4,c5,c6,c7,c8⟩:=HI4.out.ld.cells
 have z8:=HI4.out.ld.fz 8
 go_upto_if 92 with fail
 go_cut [] from 16 (fun wx=>HL w wx lb id n cap deal att aw st k vh hs ph sn f k false p1 p2 p3)
 case first =>
  cases bb with
  | true =>
   have hq:=of_decide_eq_true HBB.out
   have HSe:Hid (sn=p2):=by unfold Hid; rw [← HSn.out]; exact if_pos hq
   go_wp2_with fail
   go_meet
   rw [HSe.out]
   exact HI4.out.setSeen hlbw p2
  | false =>
   have hq:=of_decide_eq_false HBB.out
   have HSe:Hid (sn=seen):=by unfold Hid; rw [← HSn.out]; exact if_neg hq
   go_wp2_with fail
   go_meet
   rw [HSe.out]
   exact HI4.out
 rename_i wc
 have HI5:=hid hcut
 clear hcut HI4 b0 b1 b2 b3 b4 b5 b6 b7 b8 c0 c1 c2 c3 c4 c5 c6 c7 c8 z8
 generalize wc=X3 at *
 obtain ⟨b0,b1,b2,b3,b4,b5,b6,b7,b8⟩:=nine HI5.out.fr.row
 obtain ⟨c0,c1,c2,c3,c4,c5,c6,c7,c8⟩:=HI5.out.ld.cells
 by_cases g1:k=2
 ·subst g1
  go_wp2_with fail
  refine (rldecide_any 3 HI5.out.ld (by omega)).mono ?_
  rintro e v1 ⟨v,rfl,hv,hr,hk1⟩
  have HV:=hid hv
  have HR:=hid hr
  have HK:=hid (HI5.out.kp.trans hk1)
  clear hv hr hk1
  go_wp2_with fail
  go_ret
  exact ⟨_,rfl,HV.out,HR.out,HK.out⟩
 ·have e1:(k == 2)=false:=beq_eq_false_iff_ne.2 g1
  have z4:=HI5.out.ld.fz 4
  have z5:=HI5.out.ld.fz 5
  have HF:=hid ((HI5.out.ld.setSt (stB 3)).setWait 0)
  have HK:Hid (Kept (In1 lb) w ((X3.setCell ⟨lb,4,none⟩ (.string (stB 3))).setCell ⟨lb,5,none⟩ (.int .i64 0))):=(HI5.out.kp.set1 4 _).set1 5 _
  rw [stB3] at HF HK
  go_wp2_with fail
  go_ret
  exact ⟨_,rfl,by first|exact IsFr.zero _|(rw [if_neg g1]; exact IsFr.zero _),by first|exact HF.out|(rw [if_neg g1,stB3]; exact HF.out),HK.out⟩
end
end Go.Proofs.YtjcflddbaeiajacGreatDoor
