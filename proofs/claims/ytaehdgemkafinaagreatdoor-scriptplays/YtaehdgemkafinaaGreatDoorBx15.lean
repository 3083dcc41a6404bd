/-
  On the way to SPlaysProof: L8.
-/
import Derived.Test.YtaehdgemkafinaaGreatDoorBx12
set_option maxHeartbeats 8000000
set_option maxRecDepth 100000
namespace Go.Proofs.YtaehdgemkafinaaGreatDoor
open Go.RowKit
open Go.Proofs.Tryz
section
variable {w:World} {lb id n cap:Nat} {deal att:Int} {aw:Option Addr} {st:ByteArray} {wait:Int} {vh:Value} {hs:List F9} {ph seen:Int}
structure HL (w W:World) (lb id n cap:Nat) (deal att:Int) (aw:Option Addr) (st:ByteArray) (wait:Int) (vh:Value) (hs:List F9) (ph seen:Int) (f:Nat) (k:Int) (y:Bool) (p1 p2 p3:Int):Prop where
 ld:RLd W lb id n cap deal att aw st wait vh hs ph seen
 fr:FIn w W f id deal k att y p1 p2 p3
 kp:Kept (In1 lb) w W
theorem HL.later{W V:World}{f:Nat}{k:Int}{y:Bool}{b c d:Int}(h:HL w W lb id n cap deal att aw st wait vh hs ph seen f k y b c d)(a:Below W.heap.size W V):HL w V lb id n cap deal att aw st wait vh hs ph seen f k y b c d:=
 ⟨h.ld.later a,h.fr.later a,h.kp.trans (Kept.of_below a)⟩
theorem HL.setSeen{W:World}{f:Nat}{k:Int}{y:Bool}{a b c:Int}(h:HL w W lb id n cap deal att aw st wait vh hs ph seen f k y a b c)(d:lb<w.heap.size)(x:Int):HL w (W.setCell ⟨lb,8,none⟩ (.int .i64 x)) lb id n cap deal att aw st wait vh hs ph x f k y a b c:=
 ⟨h.ld.setSeen x,⟨(dS _ _ _ _ (by show w.heap.size≠lb;omega)).trans h.fr.row⟩,h.kp.set1 8 _⟩
theorem aca(f:Nat)(k:Int)(J a K F:Int)(h:RLd w lb id n cap deal att aw st k vh hs ph seen)(hl:hs.length<=100)(hk:k=2∨k=4∨k=6)(hf:f<n)(Z:bi hs f=none)(a8:n<=7)(a0:(if k≠2∧seen<a then a else seen)=F):Calls prog 88 #[.pointer (some ⟨lb,0,none⟩),frV f id deal k att false J a K] w fun e w'=>∃v,e=.returned v∧IsFr w' v (if k=2 then dz id deal 7 att 3 true n else[])∧RLd w' lb id n cap deal att aw (if k=2 then stB 2 else stB 3) 0 vh hs ph F∧Kept (In1 lb) w w':=by
 obtain⟨r,L⟩:=nmd (w.alloc (.cells #[iV (f:Int),iV (id:Int),iV deal,iV k,iV att,.bool false,iV J,iV a,iV K] 125));have Q:Hid (bW w r):=by rw[<-L.out];exact aD
 have a5:lb<w.heap.size:=ah h.row;have M:Hid (HL w r lb id n cap deal att aw st k vh hs ph seen f k false J a K):=⟨h.later Q,by rw[<-L.out];exact⟨aB w _⟩,Kept.of_below Q⟩;obtain⟨c,d,g,i,j,l,m,o,p⟩:=bH M.fr.row;obtain⟨s,t,u,x,y,z,A,B,C⟩:=M.ld.cells;have hW:=L.out;have e0:(k==0)=false:=beq_eq_false_iff_ne.2 (by omega);have f7:¬(n:Int)<=(f:Int):=by omega
 have HX:=hid Z;clear h Z
 go_enter func88,ntmps88
 go_wp2_with fail
 go_quiet (fail)
 have R:=hid (aJ (Below.refl r.heap.size r) nq);generalize r.drewN nq=a9 at R ⊢;have N:=hid (M.later R);clear c d g i j l m o p s t u x y z A B C M R hW L Q e0 f7;obtain⟨c,d,g,i,j,l,m,o,p⟩:=bH N.fr.row
 go_wp2_with fail
 refine(kg lb id n cap deal att aw st k vh hs ph seen f _ N.ld (by omega)).mono ?_;rw[HX.out,pU];simp only[Option.isSome];rintro e w1 ⟨rfl,a1⟩;have D:=hid ((N.later a1).later (aF.alloc aj (.cells #[iV 0,iV 0,iV 0,iV 0,iV 0,.bool false,iV 0,iV 0,iV 0] 125)));clear a1;obtain⟨O,S⟩:=nmd (w1.alloc (.cells #[iV 0,iV 0,iV 0,iV 0,iV 0,.bool false,iV 0,iV 0,iV 0] 125));rw[S.out]at D;clear c d g i j l m o p N;obtain⟨c,d,g,i,j,l,m,o,p⟩:=bH D.fr.row;obtain⟨s,t,u,x,y,z,A,B,C⟩:=D.ld.cells;have T:=D.ld.fz 8;have a2:=hid a0;clear a0;obtain⟨G,H⟩:∃a6:Bool,Hid (decide (k≠2∧seen<a)=a6):=⟨_,hid (Eq.refl _)⟩
 go_upto_region 13 with fail
 rw[S.out]
 go_cut [92]from 16 (fun a7 U=>a7=.bool G∧bW O U)
 case first =>
  by_cases b:k=2
  ·have I:G=false:=by rw[<-H.out];exact aS (fun V=>V.1 b)
   subst I;subst b
   go_quiet (fail)
   go_wp2_with fail
   go_meet
   exact⟨rfl,aJ aF _⟩
  ·have e1:(k != 2)=true:=bne_iff_ne.2 b
   by_cases g2:seen<a
   ·have I:G=true:=by rw[<-H.out];exact bo ⟨b,g2⟩
    subst I
    go_quiet (fail)
    go_wp2_with fail
    go_meet
    exact⟨rfl,aJ aF _⟩
   ·have I:G=false:=by rw[<-H.out];exact aS (fun V=>g2 V.2)
    subst I
    go_quiet (fail)
    go_wp2_with fail
    go_meet
    exact⟨rfl,aJ aF _⟩
 obtain⟨rfl,a3⟩:=hcut
 rename_i wc
 have E:=hid (D.later a3);clear a3 c d g i j l m o p s t u x y z A B C T D S;generalize wc=X2 at *
 obtain⟨c,d,g,i,j,l,m,o,p⟩:=bH E.fr.row;obtain⟨s,t,u,x,y,z,A,B,C⟩:=E.ld.cells;have T:=E.ld.fz 8
 go_upto_if 92 with fail
 go_cut []from 16 (fun U=>HL w U lb id n cap deal att aw st k vh hs ph F f k false J a K)
 case first =>
  cases G with
  | true =>
   have W:=cK H;have X:Hid (F=a):=by unfold Hid;rw[<-a2.out];exact af W
   go_wp2_with fail
   go_meet
   rw[X.out];exact E.setSeen a5 a
  | false =>
   have W:=of_decide_eq_false H;have X:Hid (F=seen):=by unfold Hid;rw[<-a2.out];exact aa W
   go_wp2_with fail
   go_meet
   rw[X.out];exact E
 rename_i wc
 have q:=hid hcut;clear hcut E c d g i j l m o p s t u x y z A B C T;generalize wc=X3 at *
 obtain⟨c,d,g,i,j,l,m,o,p⟩:=bH q.fr.row;obtain⟨s,t,u,x,y,z,A,B,C⟩:=q.ld.cells
 by_cases b:k=2
 ·subst b
  go_wp2_with fail
  refine(kA 3 q.ld (by omega)).mono ?_;rintro e v1 ⟨v,rfl,hv,hr,a4⟩;have HV:=hid hv;have HR:=hid hr;have P:=hid (q.kp.trans a4);clear hv hr a4
  go_wp2_with fail
  go_ret
  exact⟨_,rfl,HV,HR,P⟩
 ·have e1:(k==2)=false:=beq_eq_false_iff_ne.2 b
  have z4:=q.ld.fz 4;have z5:=q.ld.fz 5;have Y:=hid ((q.ld.setSt (stB 3)).setWait 0);have P:Hid (Kept (In1 lb) w ((X3.setCell ⟨lb,4,none⟩ (.string (stB 3))).setCell ⟨lb,5,none⟩ (iV 0))):=(q.kp.set1 4 _).set1 5 _;rw[ah5]at Y P
  go_wp2_with fail
  go_ret
  exact⟨_,rfl,by first|exact IsFr.zero _|(rw[aa b];exact IsFr.zero _),by first|exact Y|(rw[aa b,ah5];exact Y),P⟩
end
end Go.Proofs.YtaehdgemkafinaaGreatDoor
