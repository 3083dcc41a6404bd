/-
  On the way to SPlaysProof: RT.
-/
import Derived.Test.YtaehdgemkafinaaGreatDoorBx17
set_option maxHeartbeats 8000000
set_option maxRecDepth 100000
namespace Go.Proofs.YtaehdgemkafinaaGreatDoor
open Go.RowKit
open Go.Proofs.Tryz
theorem ai9(w:World):Calls prog 143 #[.int .i64 0] w fun e w'=>e=.returned (.string (bA [0]))∧Below w.heap.size w w':=kT 0 w (by omega)
theorem aiC(n h1 a b:Nat)(s:ByteArray)(c:Int)(w:World)(d:c=(n:Int))(f:n<4294967296)(g:h1<256)(h:a<4294967296)(i:b<4294967296)(j:bA (aY n ⟨h1,a,b⟩)=s):Calls prog 185 #[.int .i64 c,.agg #[.int .i64 (h1:Int),.int .i64 (a:Int),.int .i64 (b:Int)]] w fun e w'=>e=.returned (.string s)∧Below w.heap.size w w':=by
 subst d;exact xP n h1 a b s w f g h i j
section
variable {w:World} {m gn gs r:Nat} {E:Nat→Nat×St} {B:ByteArray} {l:Int}
def aiQ(w0 W wx:World)(m gn gs r:Nat)(E:Nat->Nat×St)(o:Out)(ph pr a:Nat):Prop:=
 RK wx m gn gs r E false o.b o.l∧Kept (In4 m gn gs r) W wx∧wx.heap[w0.heap.size]?=some (.cells #[.int .i64 (ph:Int),.int .i64 (pr:Int),.int .i64 (a:Int)] 80 (0,0))
theorem ahl(d ph pr a:Nat)(h:RK w m gn gs r E false B l)(K:d<6)(hf:fQ ph pr a=true)(hn:(E d).1<4294967296):Calls prog 182 #[.pointer (some ⟨m,0,none⟩),.int .i64 (d:Int),.agg #[.int .i64 (ph:Int),.int .i64 (pr:Int),.int .i64 (a:Int)]] w fun e w'=>e=.returned (.int .i64 ((bK E B l d ⟨ph,pr,a⟩).c:Nat))∧RK w' m gn gs r (bK E B l d ⟨ph,pr,a⟩).e (bK E B l d ⟨ph,pr,a⟩).over (bK E B l d ⟨ph,pr,a⟩).b (bK E B l d ⟨ph,pr,a⟩).l∧Kept (In4 m gn gs r) w w':=by
 obtain⟨i2,i3,i4,i5,i6,i7⟩:=cK hf;obtain⟨k,HW⟩:=nmd (w.alloc (.cells #[iV (ph:Int),iV (pr:Int),iV (a:Int)] 80));have HB:Hid (bW w k):=by rw[<-HW.out];exact aD
 have V:Hid (k.heap[w.heap.size]?=some (.cells #[iV (ph:Int),iV (pr:Int),iV (a:Int)] 80 (0,0))):=by rw[<-HW.out];exact aB w _
 have hW:=HW.out;have HR:=hid (h.later HB.out);obtain⟨m1,m2,m3,m4⟩:=h.lts;have f0:Hid (∀f,Kept (In4 m gn gs r) k f->Kept (In4 m gn gs r) w f):=fun f G=>(Kept.of_below HB.out).trans G
 obtain⟨⟨b,W,X,Y⟩,HD⟩:∃i,Hid (E d=i):=⟨_,rfl⟩;rw[HD.out]at hn;simp only at hn;have HP:Hid (bK E B l d ⟨ph,pr,a⟩=@ite POut ((⟨W,X,Y⟩:St)=⟨ph,pr,a⟩) (ad7 ⟨W,X,Y⟩ ⟨ph,pr,a⟩) ⟨0,E,false,B,l⟩ (if b=4294967295 then⟨5,E,false,B,l⟩
   else if(bf B l (dt d b) (b+1) ⟨ph,pr,a⟩).c=0 then⟨0,iM E d (b+1,⟨ph,pr,a⟩),false,(bf B l (dt d b) (b+1) ⟨ph,pr,a⟩).b,(bf B l (dt d b) (b+1) ⟨ph,pr,a⟩).l⟩
   else⟨(bf B l (dt d b) (b+1) ⟨ph,pr,a⟩).c,E,true,(bf B l (dt d b) (b+1) ⟨ph,pr,a⟩).b,(bf B l (dt d b) (b+1) ⟨ph,pr,a⟩).l⟩)):=by
  unfold Hid bK;rw[HD.out]
 obtain⟨cn,cs,x,c1,c2,c3,f3⟩:=HR.cells;obtain⟨H,-⟩:=HR.num K;obtain⟨t0,t1,t2,-⟩:=HR.st K;rw[HD.out]at H t0 t1 t2;simp only at H t0 t1 t2;have s0:k.cell? ⟨w.heap.size,0,none⟩=some (iV (ph:Int)):=by rw[ai V.out];rfl
 have s1:k.cell? ⟨w.heap.size,1,none⟩=some (iV (pr:Int)):=by rw[ai V.out];rfl
 have s2:k.cell? ⟨w.heap.size,2,none⟩=some (iV (a:Int)):=by rw[ai V.out];rfl
 obtain⟨b1,HQ⟩:∃b2:Bool,Hid (nC ⟨W,X,Y⟩ ⟨ph,pr,a⟩=b2):=⟨_,hid (Eq.refl _)⟩;have f1:=ab6 (W:Int) (X:Int) (Y:Int) (ph:Int) (pr:Int) (a:Int) b1 (by rw[<-HQ.out];show _=decide (W=ph∧X=pr∧Y=a);apply decide_eq_decide.2;omega);clear h hf
 go_enter func182,ntmps182
 go_upto_region 7 with fail
 go_cut [57]from 15 (fun f2 f=>f2=.bool b1∧k.heap=f.heap∧bW k f)
 case first =>
  go_region
  all_goals go_step
  all_goals go_step
  all_goals go_meet
  all_goals exact⟨rfl,rfl,aF.drew⟩
 case rest =>
  obtain⟨rfl,hh,a4⟩:=hcut;have q:=hid (HR.later a4);have f4:=hid a4;have c4:=hid ((a4.block _ (ah V.out)).trans V.out);have L:Hid (∀f,Kept (In4 m gn gs r) wc f->Kept (In4 m gn gs r) w f):=fun f G=>f0 f ((Kept.of_below f4.out).trans G)
  clear hh a4 x c1 c2 c3 f3 H t0 t1 t2 s0 s1 s2 f1;obtain⟨cn,cs,x,c1,c2,c3,f3⟩:=q.cells;obtain⟨H,-⟩:=q.num K;rw[HD.out]at H;simp only at H;generalize wc=Z at *
  cases b1 with
  | true =>
   have g:Hid (bK E B l d ⟨ph,pr,a⟩=⟨0,E,false,B,l⟩):=by unfold Hid;rw[HP.out,af (lI HQ.out)]
   go_wp2_with fail
   go_ret
   exact⟨by rw[g.out];rfl,by rw[g.out];exact q,L.out _ (Kept.refl _ _)⟩
  | false =>
   have c5:=kD HQ.out
   by_cases c6:b=4294967295
   ·have g:Hid (bK E B l d ⟨ph,pr,a⟩=⟨5,E,false,B,l⟩):=by unfold Hid;rw[HP.out,aa c5,af c6]
    have a5:(4294967296:Int)<=(b:Int)+1:=by omega
    have c7:decide ((4294967296:Int)<=(b:Int)+1)=true:=bo a5
    go_wp2_with fail
    go_ret
    exact⟨by rw[g.out];rfl,by rw[g.out];exact q,L.out _ (Kept.refl _ _)⟩
   ·obtain⟨c,Hk⟩:=nmd (dt d b)
    have i8:c=2*d+(b+1)%2:=Hk.symm;have a6:Hid (bK E B l d ⟨ph,pr,a⟩=if(bf B l c (b+1) ⟨ph,pr,a⟩).c=0 then⟨0,iM E d (b+1,⟨ph,pr,a⟩),false,(bf B l c (b+1) ⟨ph,pr,a⟩).b,(bf B l c (b+1) ⟨ph,pr,a⟩).l⟩
      else⟨(bf B l c (b+1) ⟨ph,pr,a⟩).c,E,true,(bf B l c (b+1) ⟨ph,pr,a⟩).b,(bf B l c (b+1) ⟨ph,pr,a⟩).l⟩):=by
     unfold Hid;rw[HP.out,aa c5,aa c6,Hk.out]
    have f5:((b:Int)+1).tmod 2=(((b+1)%2:Nat):Int):=by rw[Int.tmod_eq_emod_of_nonneg (by omega)];omega
    have a5:¬(4294967296:Int)<=(b:Int)+1:=by omega
    have c7:decide ((4294967296:Int)<=(b:Int)+1)=false:=aS a5
    go_wp2_with fail
    have e1:((2*(d:Int)+((b:Int)+1)%2)*18)=((18*c:Nat):Int):=by omega
    have e2:((2*(d:Int)+((b:Int)+1)%2)*18+18-1)=((18*c+17:Nat):Int):=by omega
    rw[e2,e1];have i9:c<12:=by omega
    clear e1 e2 c7 a5 f5;obtain⟨x,b3⟩:=nmd (rC B l ((18*c+17:Nat):Int) 1);have j0:=q.s6;have j8:=q.sz;have a7:Hid (x=if l=-2 then 6 else 0):=by
     unfold Hid;rw[<-b3.out];unfold rC;rw[aa (by omega)]
    obtain⟨za,c8⟩:=nmd (18*c);obtain⟨n,M⟩:=nmd (18*c+17);rw[M.out]at b3;rw[M.out,c8.out];have a0:n<B.size:=by rw[<-M.out];omega
    have ix:=eV B n (n:Int) a0 rfl;have HX:Hid (B.data.toList[18*c+17]?=some (B[n]'a0)):=by unfold Hid;rw[M.out,cG a0,jC a0]
    obtain⟨i,f6⟩:=nmd (B[n]'a0);rw[f6.out]at ix HX;obtain⟨nz,a8⟩:∃b2:Bool,Hid (decide (¬l=-2∧i.toNat≠0)=b2):=⟨_,hid (Eq.refl _)⟩;have br:=q.bytes;refine(adU (n:Int) 1 x q.out b3.out).mono ?_;rintro e f ⟨rfl,G⟩;subst f
    go_upto_region 15 with fail
    go_cut [96]from 11 (fun f7 f=>f7=.bool nz∧Z=f)
    case first =>
     by_cases j:l=-2
     ·have h6:x=6:=by rw[a7.out,af j]
      subst h6
      go_wp2_with fail
      go_meet
      exact⟨by rw[<-a8.out,aS (fun a1=>a1.1 j)],rfl⟩
     ·have h6:x=0:=by rw[a7.out,aa j]
      subst h6;have j9:=UInt8.toNat_lt i
      go_wp2_with fail
      go_meet
      refine⟨congrArg Value.bool ?_,rfl⟩;rw[<-a8.out];apply Bool.eq_iff_iff.2;simp only[bne_iff_ne,ne_eq,decide_eq_true_eq];omega
    obtain⟨rfl,rfl⟩:=hcut;have f8:Hid (w.heap.size≠m∧w.heap.size≠gn∧w.heap.size≠gs∧w.heap.size≠r):=⟨by omega,by omega,by omega,by omega⟩;have b5:Hid (¬In4 m gn gs r w.heap.size):=fun e=>by unfold In4 at e;omega
    clear ix br
    go_upto_if 96 with fail
    go_cut [10]from 11 (fun f9 f=>f9=iV ((cF B l c).c:Int)∧aiQ w Z f m gn gs r E (cF B l c) ph pr a)
    case first =>
     cases nz with
     | false =>
      have a2:Hid (cF B l c=⟨x,B,l⟩):=by
       unfold Hid cF
       by_cases j:l=-2
       ·rw[af j,a7.out,af j]
       ·have a9:i.toNat=0:=Classical.byContradiction fun a1=>of_decide_eq_false a8.out ⟨j,a1⟩
        have g0:i=0:=UInt8.toNat_inj.1 a9;rw[aa j,HX.out,g0,af rfl,a7.out,aa j]
      go_wp2_with fail
      go_meet
      exact⟨by rw[a2.out],by rw[a2.out];exact⟨q.out,Kept.refl _ _,c4.out⟩⟩
     | true =>
      obtain⟨j,a9⟩:=cK a8.out;have a2:Hid (cF B l c=iW B (bA [0]) l n):=by
       unfold Hid cF;rw[aa j,HX.out,aa (fun a1=>a9 (by rw[bF a1];rfl)),M.out]
      obtain⟨I,b0⟩:=nmd (wC B (bA [0]) l (n:Int));clear j a9
      go_wp2_with fail
      go_region_held3 (fun w'=>w'.cell? ⟨m,0,none⟩=some (pV r)) (go_keep) (first|(go_at_call 143;(with_reducible refine(ai9 _).mono ?_);rintro e N ⟨rfl,y⟩;have s:Hid (bW Z N):=((Below.refl _ Z).drew).trans y;have z:=hid (q.later s.out);have b6:=z.cells.choose_spec.choose_spec.1;clear y)|(go_at_call 210;(with_reducible refine(pO (bA [0]) _ I z.out b0.out).mono ?_);rintro e o ⟨rfl,p,A⟩;have O:=hid p;have a3:=hid ((Kept.of_below s.out).trans A);have g1:=p.cells.choose_spec.choose_spec.1;have P:=hid (a3.row c4.out b5.out);clear p A))
      all_goals go_step
      all_goals go_step
      all_goals go_meet
      all_goals exact⟨by rw[a2.out];exact congrArg (fun v:Nat=>iV (v:Int)) b0.symm,by rw[a2.out];exact⟨O.out,a3.out,P.out⟩⟩
    obtain⟨rfl,g3⟩:=hcut;obtain⟨c9,d0,d1⟩:=g3;have Q:=hid c9;have d2:=hid d0;have R:=hid d1;clear c9 d0 d1 c1 c2 c3 f3 H;have C:Hid (da B l c (b+1) ⟨ph,pr,a⟩=if(cF B l c).c=0 then iW (cF B l c).b (bA (aY (b+1) ⟨ph,pr,a⟩)) (cF B l c).l (18*c)else cF B l c):=rfl;have J:Hid (bf B l c (b+1) ⟨ph,pr,a⟩=if(da B l c (b+1) ⟨ph,pr,a⟩).c=0 then iW (da B l c (b+1) ⟨ph,pr,a⟩).b (bA [165]) (da B l c (b+1) ⟨ph,pr,a⟩).l (18*c+17)else da B l c (b+1) ⟨ph,pr,a⟩):=rfl;rw[c8.out]at C;rw[M.out]at J;obtain⟨⟨I,B1,l1⟩,b0⟩:∃g4,Hid (cF B l c=g4):=⟨_,rfl⟩;rw[b0.out]at C Q ⊢;simp only at C Q ⊢;obtain⟨q0,q1,q2,q3,q4,q5,q6⟩:=Q.cells
    by_cases h1:I=0
    ·subst h1
     rw[af rfl]at C;obtain⟨bs,d3⟩:=nmd (bA (aY (b+1) ⟨ph,pr,a⟩));rw[d3.out]at C;obtain⟨D,b7⟩:=nmd (wC B1 bs l1 (za:Int));have k0:Hid ((da B l c (b+1) ⟨ph,pr,a⟩).c=D):=by rw[C.out];exact b7
     have v0:wc.cell? ⟨w.heap.size,0,none⟩=some (iV (ph:Int)):=by rw[ai R.out];rfl
     have v1:wc.cell? ⟨w.heap.size,1,none⟩=some (iV (pr:Int)):=by rw[ai R.out];rfl
     have v2:wc.cell? ⟨w.heap.size,2,none⟩=some (iV (a:Int)):=by rw[ai R.out];rfl
     have d4:Hid (∀f,bW wc f->f.cell? ⟨m,0,none⟩=some (pV r)∧f.cell? ⟨w.heap.size,0,none⟩=some (iV (ph:Int))∧f.cell? ⟨w.heap.size,1,none⟩=some (iV (pr:Int))∧f.cell? ⟨w.heap.size,2,none⟩=some (iV (a:Int))):=fun f G=>by
      have hs:=(G.block _ (ah R.out)).trans R.out;refine⟨(Q.later G).cells.choose_spec.choose_spec.1,?_,?_,?_⟩
      all_goals(rw[ai hs];rfl)
     have g6:Hid (((b:Int)+1)=((b+1:Nat):Int)):=by unfold Hid;omega
     go_wp2_with fail
     go_region_held3 (fun w'=>w'.cell? ⟨m,0,none⟩=some (pV r)∧w'.cell? ⟨w.heap.size,0,none⟩=some (iV (ph:Int))∧w'.cell? ⟨w.heap.size,1,none⟩=some (iV (pr:Int))∧w'.cell? ⟨w.heap.size,2,none⟩=some (iV (a:Int))) (go_keep) (first|(go_at_call 185;(with_reducible refine(aiC (b+1) ph pr a bs _ _ g6.out (by omega) (by omega) (by omega) (by omega) d3.out).mono ?_);rintro e N ⟨rfl,y⟩;have s:Hid (bW wc N):=((Below.refl _ wc).drew).trans y;have z:=hid (Q.later s.out);obtain⟨b6,g7,g8,g9⟩:=d4.out N s.out;clear y)|(go_at_call 210;(with_reducible refine(pO bs _ D z.out b7.out).mono ?_);rintro e o ⟨rfl,p,A⟩;have O:=hid p;have a3:=hid ((Kept.of_below s.out).trans A);have g1:=p.cells.choose_spec.choose_spec.1;have P:=hid (a3.row R.out b5.out);have h0:o.cell? ⟨w.heap.size,0,none⟩=some (iV (ph:Int)):=(by rw[ai P.out];rfl);have h4:o.cell? ⟨w.heap.size,1,none⟩=some (iV (pr:Int)):=(by rw[ai P.out];rfl);have h5:o.cell? ⟨w.heap.size,2,none⟩=some (iV (a:Int)):=(by rw[ai P.out];rfl);clear p A))
     obtain⟨S,d5⟩:=nmd (wB B1 bs l1 (za:Int));obtain⟨T,d6⟩:=nmd (wL B1 bs l1 (za:Int));rw[d5.out,d6.out]at O;have h7:Hid (da B l c (b+1) ⟨ph,pr,a⟩=⟨D,S,T⟩):=by
      unfold Hid;rw[C.out];unfold iW;rw[b7.out,d5.out,d6.out]
     rw[h7.out]at J;simp only at J;have d7:=hid (d2.trans a3.out);clear d4 z s b6 g7 g8 g9 h0 h4 h5 v0 v1 v2 q2 q3 q4 q5 q6
     by_cases h2:D=0
     ·subst h2
      rw[af rfl]at J;obtain⟨o3,d8⟩:=nmd (wC S (bA [165]) T (n:Int));obtain⟨B3,d9⟩:=nmd (wB S (bA [165]) T (n:Int));obtain⟨l3,e0⟩:=nmd (wL S (bA [165]) T (n:Int));have e3:Hid (bf B l c (b+1) ⟨ph,pr,a⟩=⟨o3,B3,l3⟩):=by
       unfold Hid;rw[J.out];unfold iW;rw[d8.out,d9.out,e0.out]
      generalize o=wd at *
      go_step
      go_wp2_with fail
      go_region_held3 (fun w'=>w'.cell? ⟨m,0,none⟩=some (pV r)) (go_keep) (first|(go_at_call 143;(with_reducible refine(xu _).mono ?_);rintro e N ⟨rfl,y⟩;have s:Hid (bW wd N):=((Below.refl _ wd).drew).trans y;have z:=hid (O.later s.out);have b6:=z.cells.choose_spec.choose_spec.1;clear y)|(go_at_call 210;(with_reducible refine(pO (bA [165]) _ o3 z.out d8.out).mono ?_);rintro e o ⟨rfl,p,A⟩;have t:=hid p;have e4:=hid ((Kept.of_below s.out).trans A);have k1:=p.cells.choose_spec.choose_spec.1;have b8:=hid (e4.row P.out b5.out);clear p A))
      rw[d9.out,e0.out]at t;have e5:=hid (d7.trans e4.out);obtain⟨j1,j2,j3,j4,j5,j6,j7⟩:=t.cells
      by_cases h3:o3=0
      ·subst h3
       have g:Hid (bK E B l d ⟨ph,pr,a⟩=⟨0,iM E d (b+1,⟨ph,pr,a⟩),false,B3,l3⟩):=by unfold Hid;rw[a6.out,e3.out,af rfl]
       have b9:=hid (t.put K (b+1) ⟨ph,pr,a⟩ ((b:Int)+1) (by omega));obtain⟨h8,h9⟩:=t.num K;obtain⟨u0,u1,u2,u3⟩:=t.st K;have e6:=u3 (d*3);have e7:=u3 (d*3+1);have e8:=u3 (d*3+2);have v0:o.cell? ⟨w.heap.size,0,none⟩=some (iV (ph:Int)):=by rw[ai b8.out];rfl
       have v1:o.cell? ⟨w.heap.size,1,none⟩=some (iV (pr:Int)):=by rw[ai b8.out];rfl
       have v2:o.cell? ⟨w.heap.size,2,none⟩=some (iV (a:Int)):=by rw[ai b8.out];rfl
       have n1:=t.rj.mn;have n2:=t.rj.ms;have U:=t.rj.ns;obtain⟨n4,n5,n6,n7⟩:=f8.out;clear u3
       go_step
       go_wp2_with fail
       obtain⟨X5,e9⟩:=nmd (o.setCell ⟨gn,d,none⟩ (iV ((b:Int)+1)));have u:Hid (Kept (In1 gn) o X5):=by rw[<-e9.out];exact(Kept.refl _ _).set1 d _
       rw[e9.out]at b9 ⊢;obtain⟨T0,T1,-⟩:=t.rj.sts;have k2:=jJ u.out j5 n1;have k3:=jJ u.out u0 U.symm;have k4:=jJ u.out u1 U.symm;have k5:=jJ u.out u2 U.symm;have k6:=jJ u.out v0 n5;have k7:=jJ u.out v1 n5;have k8:=jJ u.out v2 n5;have z3:=(zy (i:=d*3) u.out T1 U.symm).trans e6;have z4:=(zy (i:=d*3+1) u.out T1 U.symm).trans e7;have z5:=(zy (i:=d*3+2) u.out T1 U.symm).trans e8;clear u0 u1 u2 v0 v1 v2 e6 e7 e8 h8 h9 j3 j4 j5 j6 j7 T1
       go_region
       all_goals go_wp2_with fail
       all_goals go_ret
       all_goals exact⟨by rw[g.out];rfl,by rw[g.out];exact b9.1.drew,L.out _ (e5.trans b9.2.drew)⟩
      ·have g:Hid (bK E B l d ⟨ph,pr,a⟩=⟨o3,E,true,B3,l3⟩):=by unfold Hid;rw[a6.out,e3.out,aa h3]
       have g2:decide ((0:Int)<(o3:Int))=true:=bo (by omega);have F:=hid t.die
       go_step
       go_wp2_with fail
       go_ret
       exact⟨by rw[g.out];rfl,by rw[g.out];exact F.1,L.out _ (e5.trans F.2)⟩
     ·have c0:Hid (bf B l c (b+1) ⟨ph,pr,a⟩=⟨D,S,T⟩):=by unfold Hid;rw[J.out,aa h2]
      have g:Hid (bK E B l d ⟨ph,pr,a⟩=⟨D,E,true,S,T⟩):=by unfold Hid;rw[a6.out,c0.out,aa h2]
      have i1:((D:Int)==0)=false:=by simp;omega
      have g2:decide ((0:Int)<(D:Int))=true:=bo (by omega);obtain⟨j1,j2,j3,j4,j5,j6,j7⟩:=O.cells;have F:=hid O.die
      go_step
      go_wp2_with fail
      go_ret
      exact⟨by rw[g.out];rfl,by rw[g.out];exact F.1,L.out _ (d7.trans F.2)⟩
    ·have c0:Hid (bf B l c (b+1) ⟨ph,pr,a⟩=⟨I,B1,l1⟩):=by
      unfold Hid;rw[J.out,C.out,aa h1];simp only;rw[aa h1]
     have g:Hid (bK E B l d ⟨ph,pr,a⟩=⟨I,E,true,B1,l1⟩):=by unfold Hid;rw[a6.out,c0.out,aa h1]
     have i1:((I:Int)==0)=false:=by simp;omega
     have g2:decide ((0:Int)<(I:Int))=true:=bo (by omega);have F:=hid Q.die
     go_wp2_with fail
     go_ret
     exact⟨by rw[g.out];rfl,by rw[g.out];exact F.1,L.out _ (d2.trans F.2)⟩
end
end Go.Proofs.YtaehdgemkafinaaGreatDoor
