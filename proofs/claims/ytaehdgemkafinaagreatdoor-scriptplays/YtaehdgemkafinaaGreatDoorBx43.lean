/-
  On the way to SPlaysProof: X5 X6B X6C HeldA.
-/
import Derived.Test.YtaehdgemkafinaaGreatDoorBx41
import Derived.Test.YtaehdgemkafinaaGreatDoorBx40
import Derived.Lib.LaidTab
import Derived.ChangeArms
set_option maxHeartbeats 8000000
set_option maxRecDepth 100000
namespace Go.Proofs.YtaehdgemkafinaaGreatDoor
open Go.RowKit
open Go.Proofs.Tryz
section
variable {w0 w w1 w':World} {C C':Nat→Nat} {K:RB} {Y:YB} {aw:Option Addr} {i n cap m m':Nat} {zs:List Int} {N:PN} {V V':PX}
theorem acC{g:World}{q:Nat->Nat}{c:YB}{s d:Nat}{x y:Int×PL}(h:RW w0 w C Y aw cap zs V m)(r:RW w0 g q c aw cap zs V' m')(t:eY c=eY Y)(k:Kept (fun x=>C x=1001∨C x=1005) w g)(j:s<zs.length)(l:d<6)(u:(V.nd s).ld d=some x)(v:(V'.nd s).ld d=some y):(c.K s).lb d=(Y.K s).lb d:=by
 have F:=h.n7.2;have e:=h.nds s j;have o:=r.nds s j;obtain⟨-,-,z,-⟩:=e.cells;obtain⟨-,-,b,-⟩:=o.cells;have G:=e.cn;have H:=e.cl;have A:=bG k z (fun f=>by have B:C (Y.K s).nd=1001∨C (Y.K s).nd=1005:=f;omega);rw[oF t,A]at b;have D:(c.K s).ls=(Y.K s).ls:=by injection b with b;injection b with b;injection b with b;injection b with b;exact b.symm
 have p:=e.lead l;have a:=o.lead l;rw[gz u]at p;rw[gz v,D]at a;have E:=bG k p (fun f=>by have B:C (Y.K s).ls=1001∨C (Y.K s).ls=1005:=f;omega);rw[E]at a;injection a with a;injection a with a;injection a with a;injection a with a
 exact a.symm
theorem ae2(s:Nat)(h:RW w0 w C Y aw cap zs V m)(hs:s<zs.length)(hu:upN (V.nd s)=true)(hm:m<900000):Calls prog 24 #[.pointer (some ⟨Y.xb,0,none⟩),.int .i64 (s:Int)] w fun e w'=>e=.returned (.int .i64 0)∧ROut w0 w w' C Y aw cap zs (dJ zs s 6 0 V) (m+42):=by
 have j3:=hid h;have r:=hid hs;have HU:=hid hu;have j4:=hid (kw (s:Int) 0 h (by unfold cUp;rw[af ⟨by omega,by omega⟩,aU,af hu]));obtain⟨M,HT⟩:=nmd (dJ zs s 6 0 V);rw[HT.out];obtain⟨-,c1,-,-,-⟩:=h.cells;have cn:=h.ns s hs;have n7:=h.n7;obtain⟨g,v⟩:=nmd (zs.length);rw[v.out]at c1 hs n7;have o5:¬((g:Int)<=(s:Int)):=by omega
 clear h hu
 go_enter func24,ntmps24
 go_wp2_with fail
 refine j4.mono ?_;rintro e w1 ⟨rfl,u⟩;subst w1
 go_wp2_with fail
 clear c1 cn
 go_loopw [7] (fun x wr=>∃(a:Nat) (b:PX),a<=6∧x=iV (a:Int)∧Hid (dJ zs s (6-a) a b=M)∧Hid (upN (b.nd s)=true)∧ROut w0 w wr C Y aw cap zs b (m+7*a)) (fun x _=>6-(intOf x).toNat)
 case atStart=>exact⟨0,V,Nat.zero_le _,rfl,HT.out,HU.out,j3.out.out aF (by omega)⟩
 case round =>
  obtain⟨a,b,hq,rfl,W,G,C1,Y1,g1,g2,g3,g4⟩:=hrel
  rename_i wr
  have k:=hid (And.intro g1 (And.intro g2 (And.intro g3 g4)));clear g1 g2 g3 g4
  by_cases o:a<6
  ·obtain⟨⟨q,l,B⟩,O⟩:∃p,Hid (stN (b.nd s) a=p):=⟨_,rfl⟩
   obtain⟨j5,o6,⟨cs,o7⟩,s1,s2,s3⟩:=(k.1.nds s r.out).way G.out o O.out;rw[oF k.out.2.1]at j5;have j6:Hid (q<=5∧l<=1048576):=by have:=(k.1.inv.nd s r.out).gd a o;have j7:(dlN (b.nd s) a).2=⟨q,l,B⟩:=O.out;rw[j7]at this;exact⟨this.1,this.2.1⟩
   obtain⟨t,b8⟩:=nmd (wr.alloc (.cells #[iV (q:Int),iV (l:Int),iV (B:Int)] 80));have o8:=b8.out;have a0:Hid (bW wr t):=by rw[<-b8.out];exact aD
   have b9:Hid (t.heap[wr.heap.size]?=some (.cells #[iV (q:Int),iV (l:Int),iV (B:Int)] 80 (0,0))):=by rw[<-b8.out];exact aB wr _
   have j8:t.cell? ⟨wr.heap.size,0,none⟩=some (iV (q:Int)):=by rw[ai b9.out];rfl
   have a7:t.cell? ⟨wr.heap.size,1,none⟩=some (iV (l:Int)):=by rw[ai b9.out];rfl
   have o9:t.cell? ⟨wr.heap.size,2,none⟩=some (iV (B:Int)):=by rw[ai b9.out];rfl
   have X:=hid (k.1.later a0.out);have e0:Hid (ROut w0 w t C Y aw cap zs b (m+7*a)):=⟨C1,Y1,X.out,k.2.1,k.2.2.1.trans (Kept.of_below a0.out),k.2.2.2⟩;have p1:Hid (2000<=C1 wr.heap.size):=by
    rcases bU (C1 wr.heap.size) 2000 with H|H
    ·have:=k.1.lt _ H;omega
    ·exact H
   have a8:Hid (Y1.xb=Y.xb):=fH k.2.1;have e1:Hid ((Y1.K s).nd=(Y.K s).nd):=oF k.2.1 s
   by_cases Q:q=0∧l=0∧B=0
   ·have a9:∀w,(binOp .eql 80 (.agg #[iV (q:Int),iV (l:Int),iV (B:Int)]) (.agg #[iV 0,iV 0,iV 0])).run prog w=.ok (.bool true) w:=qh q l B true (bo Q)
    have R:Hid (dJ zs s (6-(a+1)) (a+1) b=M):=by
     have e:dy zs b s a=b:=by unfold dy;exact af (by rw[O.out,Q.1,Q.2.1,Q.2.2];rfl)
     have:=W.out;rw[fo s o,e,af G.out]at this;exact this
    clear Q
    go_wp2_with fail
    go_roundw
    case rel=>exact⟨a+1,b,by omega,by go_num,R.out,G.out,e0.mono (by omega)⟩
    case measure=>simp[intOf];omega
   ·have a9:∀w,(binOp .eql 80 (.agg #[iV (q:Int),iV (l:Int),iV (B:Int)]) (.agg #[iV 0,iV 0,iV 0])).run prog w=.ok (.bool false) w:=qh q l B false (aS Q)
    have e2:Hid (¬stN (b.nd s) a=St.zero):=fun e=>Q (by rw[O.out]at e;cases e;exact⟨rfl,rfl,rfl⟩)
    clear Q;obtain⟨P,c0⟩:=nmd (aT q);have e4:=hid (fun w=>iw q P w c0.out);obtain⟨e5,c1,-,-,-⟩:=X.cells;rw[a8.out,v.out]at e5 c1
    cases P with
    | true =>
     have b0:Hid (dy zs b s a=aW b (toL s a 7 l q g)):=by
      unfold dy;rw[O.out,v.out];have:¬(⟨q,l,B⟩:St)=St.zero:=by rw[<-O.out];exact e2
      rw[aa this,af c0.out];exact rfl
     have R:Hid (dJ zs s (6-(a+1)) (a+1) (aW b (toL s a 7 l q g))=M):=by
      have:=W.out;rw[fo s o,b0.out,af (show upN ((aW b (toL s a 7 l q g)).nd s)=true from G.out)]at this;exact this
     have e6:Hid ((∀e7,e7∈toL s a 7 l q g->FI zs.length e7)∧(toL s a 7 l q g).length<=1000):=by
      have p2:=j6.out;refine⟨?_,by rw[eJ];omega⟩;rw[v.out];exact kI hs n7.2 o (by decide) ⟨by omega,by omega⟩ ⟨by omega,by omega⟩ g aj
     have c2:=hid (fun w=>nr s g cap (a:Int) (l:Int) aw w)
     go_wp2_with fail
     refine(e4.out _).mono ?_;rintro e w4 ⟨rfl,j9⟩;subst w4
     go_wp2_with fail
     go_region_held3 (fun V=>V.cell? ⟨Y.xb,0,none⟩=some (.slice aw g cap)∧V.cell? ⟨wr.heap.size,1,none⟩=some (iV (l:Int))) (go_keep) (first|(go_at_call 82;(with_reducible refine(c2.out _).mono ?_);rintro e w5 ⟨Z,rfl,e8,b1,b2⟩;have q0:=ag b1 e5;have q1:=ag b1 a7;have k0:=hid e8;have c3:=hid b1;clear e8 b1 b2))
     have p0:=ag c3.out j8;have e9:=hid (jb Z s g cap (a:Int) 7 (l:Int) (q:Int) true aw _ _ _ _ _ w5 k0.row (by omega));rw[iy]at e9
     go_wp2_with fail
     refine e9.mono ?_;rintro e w6 ⟨x,rfl,f0,a1⟩;have b3:Hid (bW t w6):=((Below.refl _ t).drew.trans c3.out).trans (a1.mono c3.size);have a5:=hid (la x _ (X.later b3.out) (IsFr.owned f0) e6.1 e6.2 (by omega));rw[a8.out]at a5;clear f0 a1 q0 q1 p0
     go_wp2_with fail
     refine a5.mono ?_;rintro e w7 ⟨rfl,f1⟩;have k1:=hid f1;clear f1
     go_wp2_with fail
     go_roundw
     case rel=>exact⟨a+1,_,by omega,by go_num,R.out,G.out,(ROut.step k.2.1 (k.2.2.1.trans (Kept.of_below (a0.trans (b3.mono a0.size)))) k.2.2.2 k1.out).mono (by omega)⟩
     case measure=>simp[intOf];omega
    | false =>
     have b0:Hid (dy zs b s a=ei zs b s a (ci zs.length s (bN (b.nd s) a))):=by
      unfold dy;rw[O.out];have:¬(⟨q,l,B⟩:St)=St.zero:=by rw[<-O.out];exact e2
      rw[aa this,aa (by rw[c0.out];decide)];exact rfl
     have c4:=hid (X.nds s r.out);have k2:=gS (k.1.inv.nd s r.out) o;obtain⟨j,c5⟩:=nmd (bN (b.nd s) a);rw[c5.out]at k2;obtain⟨-,-,l2,-⟩:=c4.cells;rw[e1.out]at l2;have l3:=c4.lead o;have p3:IntKind.i64.wrap (j+1)=j+1:=by rw[IntKind.wrap_i64];omega
     have p4:(0:Int)<(g:Int):=by omega
     have p5:¬((g:Int)=0):=by omega
     obtain⟨S,b4⟩:=nmd (mX g s (j+1));have f2:=age (n:=g) (s:=s) (a:=j+1) (by omega);rw[b4.out]at f2;have k3:Hid (∀f:Int,0<=f->f<=S->((j+1+f)%g=s ↔ f=S)):=fun f j0 j1=>by
      have:=agu (n:=g) (s:=s) (a:=j+1) (j:=f) hs j0 (by rw[b4.out];exact j1);rw[b4.out]at this;exact this
     have k4:Hid (ci zs.length s (bN (b.nd s) a)=j+1+S):=by rw[v.out,c5.out,uj,b4.out];exact rfl
     obtain⟨H,hp⟩:∃H:Int,Hid ((l:Int)=H):=⟨_,rfl⟩;rw[hp.out]at a7;simp only[hp.out]at a9;have k5:Hid ((b.nd s).ld a=none∧H=j∨∃p,(b.nd s).ld a=some p∧((p.2.seen<=H∧H=j)∨(H<p.2.seen∧p.2.seen=j))):=by
      have e:=c5.out;unfold bN at e;have D:(stN (b.nd s) a).pr=l:=by rw[O.out]
      rw[D,hp.out]at e
      cases u:(b.nd s).ld a with
      | none=>rw[u]at e;exact .inl ⟨rfl,e⟩
      | some p =>
       rw[u]at e;simp only at e;refine .inr ⟨p,rfl,?_⟩;omega
     have f3:Hid (∀p,(b.nd s).ld a=some p->t.cell? ⟨(Y1.K s).lb a,8,none⟩=some (iV p.2.seen)):=fun p u=>by
      obtain⟨E,r1,r2⟩:=c4.lds a o p u;rw[r1.seen];exact r2.cells.2.2.2.2.2.2.2.2
     rcases k5.out with⟨u,I⟩|⟨p,u,(⟨f4,I⟩|⟨k6,I⟩)⟩
     all_goals first
      | (rw[iu u]at l3;rw[I]at a7;simp only[I]at a9;clear u I)
      | (rw[gz u]at l3;have l8:=f3.out p u;obtain⟨sn,k7⟩:=nmd (p.2.seen);rw[k7.out]at l8 f4;have p6:¬(j<sn):=(by omega);rw[I]at a7;simp only[I]at a9;clear u f4 I)
      | (rw[gz u]at l3;have l8:=f3.out p u;rw[I]at l8 k6;clear u I)
     all_goals
      go_wp2_with fail
      refine(e4.out _).mono ?_;rintro e w4 ⟨rfl,j9⟩;subst w4
      go_wp2_with fail
      go_loopw [11] (fun x wx=>∃f:Int,0<=f∧f<=S∧x=iV (j+1+f)∧wx=t) (fun x _=>(j+1+S-intOf x).toNat)
      case atStart=>exact⟨0,Int.le_refl _,f2.1,by simp,rfl⟩
      case round =>
       obtain⟨f,j0,j1,rfl,a6⟩:=hrel;rw[a6];clear a6;have HJ:=hid (k3.out f j0 j1);have k8:IntKind.i64.wrap (j+1+f+1)=j+1+f+1:=by rw[IntKind.wrap_i64];omega
       have k9:(j+1+f).tmod (g:Int)=(j+1+f)%(g:Int):=ail (by omega)
       by_cases a2:f=S
       ·have f5:((j+1+f)%(g:Int)!=(s:Int))=false:=by rw[HJ.out.2 a2];simp
        obtain⟨c,b5⟩:∃c:Nat,j+1+f=(c:Int):=⟨(j+1+f).toNat,by omega⟩;have f6:Hid (ci zs.length s (bN (b.nd s) a)=(c:Int)):=by rw[k4.out,<-a2];exact b5
        rw[b5]at f5 k9 ⊢;have l0:Hid (1<=c):=by show 1<=c;omega
        clear a2 k8 HJ
        by_cases f7:1048576<c
        ·have f8:(1048576:Int)<(c:Int):=by omega
         have R:Hid (dJ zs s (6-(a+1)) (a+1) b=M):=by
          have e:dy zs b s a=b:=by rw[b0.out,f6.out];unfold ei;exact af f8
          have:=W.out;rw[fo s o,e,af G.out]at this;exact this
         clear f7 b5
         go_wp2_with fail
         refine⟨⟨a+1,b,by omega,by go_num,R.out,G.out,e0.mono (by omega)⟩,?_⟩;simp[intOf];omega
        ·have f8:¬((1048576:Int)<(c:Int)):=by omega
         clear b5;have f9:c<=1048576:=by omega
         have p7:=hid f9;have a3:Hid ((c:Int)<=1048576):=by show(c:Int)<=1048576;omega
         have c6:Hid (FI zs.length (aH s a c)):=iK r.out (by rw[v.out];exact n7.2) o ⟨by omega,by omega⟩;have b6:(b.nd s).l≠-2:=by have:=G.out;unfold upN at this;simpa using this
         have l1:=hid (kW (X.inv.nd s r.out) b6 c6.out (by omega));obtain⟨P,T⟩:=nmd (upN (aM (b.nd s) (aH s a c)));have l4:Hid (Calls prog 87 #[pV Y.xb,iV (s:Int),frV (s:Int) (s:Int) (a:Int) 3 (c:Int) false 0 0 0] t fun e w'=>∃x,e=.returned (.tuple #[x,.bool P])∧afv w0 t w' C1 Y1 aw cap zs (aQ b s (aH s a c)) (m+7*a+1) x (ca s (b.nd s) (aH s a c))):=by
          have:=qH (w:=t) s a 3 c 0 0 0 false (aH s a c) rfl X.out r.out G.out c6.out (by omega);rw[a8.out,T.out]at this;exact this
         clear f7 b6 f9
         go_wp2_with fail
         refine l4.mono ?_;rintro e w5 ⟨x,rfl,C5,Y5,g1,g2,g3,g4,g5⟩;have z:=hid (And.intro g1 (And.intro g2 (And.intro g3 g4)));have c7:=hid g5;clear g1 g2 g3 g4 g5;have g0:Hid (dy zs b s a=ei zs b s a c):=by rw[b0.out,f6.out];exact rfl
         cases P with
         | false =>
          have l5:Hid (M=aQ b s (aH s a c)):=by
           have J:ei zs b s a c=aQ b s (aH s a c):=by unfold ei;rw[aa (Int.not_lt.2 a3.out),af T.out]
           have:=W.out;rw[fo s o,g0.out,J,aa (by rw[gU,T.out];decide)]at this;exact this.symm
          go_wp2_with fail
          go_ret
          refine⟨rfl,?_⟩;rw[l5.out];refine ROut.step k.2.1 (k.2.2.1.trans (Kept.of_below a0.out)) k.2.2.2 ?_;exact ROut.mono ⟨C5,Y5,z.1,z.2.1,z.2.2.1,z.2.2.2⟩ (by omega)
         | true =>
          obtain⟨d,c8⟩:∃d,Hid (ca s (b.nd s) (aH s a c)=[d]):=by
           rcases l1.out with⟨J,-⟩|⟨-,d,J⟩
           ·rw[T.out]at J;cases J
           ·exact⟨d,J⟩
          rw[c8.out]at c7;have R:Hid (dJ zs s (6-(a+1)) (a+1) (ei zs b s a c)=M∧upN ((ei zs b s a c).nd s)=true):=by
           have D:upN ((ei zs b s a c).nd s)=true:=by
            unfold ei;rw[aa (Int.not_lt.2 a3.out),aa (by rw[T.out];decide)];have e3:∀(g6:PX) (c9:PN) (E:List F9),(aW (aA g6 s c9) E).nd s=c9:=fun g6 c9 E=>by simp[aW,aA]
            rw[e3];exact T
           have:=W.out;rw[fo s o,g0.out,af D]at this;exact⟨this,D⟩
          have l6:=hid (qV s a (c:Int) d c8.out (Int.not_lt.2 a3.out) T.out (zs:=zs));have l7:Hid ((aQ b s (aH s a c)).nd s=aM (b.nd s) (aH s a c)):=gU _ _ _;have l9:Hid (upN ((aQ b s (aH s a c)).nd s)=true):=by rw[l7.out];exact T
          have d0:Hid (Y5.xb=Y.xb):=(fH z.2.1).trans a8.out;have m0:Hid ((Y5.K s).nd=(Y.K s).nd):=(oF z.2.1 s).trans e1.out;obtain⟨x0,x1,-,-,-⟩:=z.1.cells;rw[d0.out,v.out]at x0 x1;have c2:=hid (fun w=>nr s g cap (a:Int) (c:Int) aw w);obtain⟨av,cv,hv,g7,-⟩:=c7.out;obtain⟨L,A,g8,-⟩:=g7 0 (by simp);rw[g8,show[d].length=1 from rfl]at hv;subst hv;clear g7 g8
          go_wp2_with fail
          refine(c2.out _).mono ?_;rintro e w6 ⟨Z,rfl,g9,a1,b2⟩;have h0:=hid (And.intro g9 b2);have b3:=hid a1;have d1:=hid (z.1.later a1);obtain⟨-,-,h1,-⟩:=(d1.nds s r.out).cells;rw[m0.out]at h1;have m1:=(d1.nds s r.out).lead o;have m2:w6.frozen? ⟨(Y5.K s).ls,a,none⟩=false:=dN (d1.nds s r.out).lrow;obtain⟨W7,h2⟩:=nmd (w6.setCell ⟨(Y5.K s).ls,a,none⟩ (pV Z));have p8:=h2.out;clear g9 a1 b2 x0 x1;have h3:Hid (FI zs.length d):=by
           have b6:(b.nd s).l≠-2:=by have:=G.out;unfold upN at this;simpa using this
           have:=(mE (F:=aH s a c) X.inv (by show(b.nd ((s:Int)).toNat).l≠-2;rw[aU];exact b6) c6.out (by omega)).1 d;refine this ?_;have J:¬fO (aH s a c).k=true:=by show ¬decide ((3:Int)=2∨(3:Int)=4∨(3:Int)=6)=true;decide
           unfold cX;rw[aa J];show d∈ca ((s:Int)).toNat (b.nd ((s:Int)).toNat) (aH s a c);rw[aU,c8.out];exact List.mem_singleton.2 rfl
          have m3:Hid (∃C7 Y7,RW w0 W7 C7 Y7 aw cap zs (aA (aQ b s (aH s a c)) s (aC ((aQ b s (aH s a c)).nd s) a ((c:Int),P0))) (m+7*a+1)∧eY Y7=eY Y5∧(Y7.K s).lb a=Z∧Kept (di C5) w5 W7∧(∀p,p<w5.heap.size->C7 p=C5 p)):=by
           have:=z.1.leadNew (m':=m+7*a+1) (a:=(c:Int)) r.out o l9.out b3.out (by rw[v.out];exact h0.1) h0.2 ⟨by omega,a3.out⟩ aj;rw[h2.out]at this;obtain⟨C7,y1,y2,y3,-⟩:=this;exact⟨C7,_,y1,kx rfl,by simp[dY],y2,y3⟩
          obtain⟨C7,Y7,d2,h4,d3,h5,h6⟩:=m3.out;have h7:=hid d2;have U:=hid (And.intro h4 (And.intro d3 (And.intro h5 h6)));have m4:Hid (∃E:LSt,RLd W7 Z s g cap (a:Int) (c:Int) aw (stB E.stt) E.wait ((Y7.K s).vh a) E.hs E.ph E.seen):=by
           obtain⟨E,-,r2⟩:=(d2.nds s r.out).lds a o ((c:Int),P0) (by simp[aA,aC]);rw[d3,v.out]at r2;exact⟨E,r2⟩
          obtain⟨L7,h8⟩:=m4.out;have h9:=hid (oZ h8 (by omega));rw[uY hs (by have:=l0.out;omega)]at h9;have d4:=hid (gT (n:=zs.length) (s:=s) (d:=a) (a:=(c:Int)) r.out (by rw[v.out];exact n7.2) o ⟨by omega,a3.out⟩);rw[v.out]at d4;clear d2 h4 d3 h5 h6 h8
          go_wp2_with fail
          refine h9.mono ?_;rintro e w8 ⟨vs,rfl,i0,d5⟩;have a5:=hid (qf vs _ (h7.later d5) i0 (by rw[v.out];exact d4.1) d4.2 (by omega));rw[fH U.out.1,d0.out]at a5;have d6:=hid d5;clear i0 d5 h1 m1 m2
          go_wp2_with fail
          refine a5.mono ?_;rintro e y ⟨rfl,⟨C9,Y9,y1,y2,y3,y4⟩,i1⟩;have F:=hid (And.intro y1 (And.intro y2 (And.intro y3 y4)));have d7:Hid ((Y9.K s).lb a=Z):=(acC (h7.later d6.out) y1 y2 i1 r.out o (x:=((c:Int),P0)) (y:=((c:Int),P0)) (by simp[aA,aC]) (by simp[aW,aA,aC])).trans U.2.1;have m5:Hid (FrF y C9 t.heap.size (.slice (some ⟨L,A,none⟩) 1 cv) [d]):=((c7.kept U.2.2.1 U.2.2.2).kept (Kept.of_below d6.out) (fun _ _=>rfl)).kept y3 y4;have m6:Hid (y.cell? ⟨L,A,none⟩=some (iV d.f)∧y.cell? ⟨L,A+1,none⟩=some (iV d.t)∧y.cell? ⟨L,A+2,none⟩=some (iV d.d)∧y.cell? ⟨L,A+3,none⟩=some (iV d.k)∧y.cell? ⟨L,A+4,none⟩=some (iV d.a)∧y.cell? ⟨L,A+5,none⟩=some (.bool d.y)∧y.cell? ⟨L,A+6,none⟩=some (iV d.ph)∧y.cell? ⟨L,A+7,none⟩=some (iV d.pr)∧y.cell? ⟨L,A+8,none⟩=some (iV d.pa)):=by
           obtain⟨p9,q2,e',m7,-⟩:=m5.out;obtain⟨b',o',D,hc⟩:=m7 0 (by simp);injection e' with e3
           rw[<-e3]at D;injection D with D
           injection D with m8 m9
           subst m8 m9;exact mH (x:=d) (fun f hj=>by have:=hc f hj;rw[show A+0*9+f=A+f by omega]at this;exact this)
          clear y1 y2 y3 y4 i1;have n0:Hid (Calls prog 88 #[pV Z,.agg #[iV d.f,iV d.t,iV d.d,iV d.k,iV d.a,.bool d.y,iV d.ph,iV d.pr,iV d.pa]] y fun e d8=>∃a4,e=.returned a4∧Calls prog 83 #[pV Y.xb,a4] d8 fun e d9=>e=.returned (.tuple #[])∧ROut w0 w d9 C Y aw cap zs (ei zs b s a c) (m+7*a+7)):=by
           obtain⟨L9,i2,n1⟩:=(F.1.nds s r.out).lds a o ((c:Int),P0) (by simp[aW,aA,aC]);obtain⟨q3,n2⟩:=(F.1.nds s r.out).ce a o ((c:Int),P0) (by simp[aW,aA,aC]);obtain⟨vb,vo,i3,q4,n3⟩:=F.1.weights;have i4:=F.1.low;have n4:0<=d.pr∧d.pr<=1048576:=by have:=h3.ok.2.2.2.2.2.2.1;omega
           have i5:zs.length<=7:=by rw[v.out];exact n7.2
           have hh:=rk (w:=y) (zs:=zs) (lb:=(Y9.K s).lb a) (id:=s) (cap:=cap) (vb:=vb) (vo:=vo) (deal:=a) (att:=(c:Int)) (vh:=(Y9.K s).vh a) (P:=P0) (L:=L9) d (by rw[<-i3];exact n1) i2 (by omega) (fun _=>n4.1) F.1.inv.he n3 (fun e=>by have n5:=i4 ((Y9.K s).lb a) (by omega);omega) (fun e=>by have q5:=n2 _ e;have n5:=i4 vb (by omega);omega);rw[d7.out]at hh;refine hh.mono ?_;rintro e d8 ⟨a4,q6,L',rfl,n6,n8,n9,o0,o1⟩;refine⟨a4,rfl,?_⟩;obtain⟨J,D⟩:=vI (zs:=zs) (i:=s) (d:=a) (F:=d) (V:=aW (aA (aQ b s (aH s a c)) s (aC ((aQ b s (aH s a c)).nd s) a ((c:Int),P0))) (dw s a c g)) (x:=((c:Int),P0)) (by simp[aW,aA,aC]);have o2:=((F.1.inv.nd s r.out).hears (i:=s) (d:=a) (x:=((c:Int),P0)) (F:=d) (by simp[aW,aA,aC]) i2 i5 h3.out);have o3:=F.1.leadOut (i:=s) (d:=a) (x:=((c:Int),P0)) r.out o (by simp[aW,aA,aC]) (by rw[d7.out];exact o0) n8 (by rw[d7.out,i3];exact n9) o1 aj o2;obtain⟨q7,q8,u1,u2,u3,u4⟩:=o3;have i6:=la a4 _ u1 n6 (lV (zs:=zs) (id:=s) (d:=a) (att:=(c:Int)) (P:=P0) (f:=d) r.out i5 o ⟨by omega,a3.out⟩) (bc (me _ _ _ _ _) (by omega)) (by omega);rw[fH u2,fH F.out.2.1,fH U.out.1,d0.out]at i6;refine i6.mono ?_;rintro e d9 ⟨rfl,ho⟩;refine⟨rfl,?_⟩;have i7:=l6.out;rw[v.out,J,D]at i7;rw[<-i7];refine ROut.step k.2.1 (k.2.2.1.trans (Kept.of_below a0.out)) k.2.2.2 ?_;refine ROut.step z.2.1 z.2.2.1 z.2.2.2 ?_;refine ROut.step U.1 (U.2.2.1.trans (Kept.of_below d6.out)) U.2.2.2 ?_;refine ROut.step F.2.1 F.2.2.1 F.2.2.2 ?_;exact(ROut.step u2 u3 u4 ho).mono (by omega)
          obtain⟨t0,t1,t2,t3,t4,t5,t6,t7,t8⟩:=m6.out
          go_wp2_with fail
          go_loopw [15] (fun b7 wx=>(b7=iV 0∧wx=y)∨(b7=iV 1∧ROut w0 w wx C Y aw cap zs (ei zs b s a c) (m+7*a+7))) (fun b7 _=>2-(intOf b7).toNat)
          case atStart=>exact .inl ⟨rfl,rfl⟩
          case round =>
           rcases hrel with⟨rfl,a6⟩|⟨rfl,i8⟩
           ·rw[a6]
            clear a6
            go_wp2_with fail
            refine n0.mono ?_;rintro e d8 ⟨a4,rfl,i9⟩
            go_wp2_with fail
            refine i9.mono ?_;rintro e d9 ⟨rfl,ho⟩;have HO:=hid ho;clear i9 ho
            go_wp2_with fail
            go_roundw
            case rel=>exact .inr ⟨by go_num,HO.out⟩
            case measure=>simp[intOf]
           ·have HO:=hid i8
            clear i8
            go_wp2_with fail
            refine⟨⟨a+1,ei zs b s a c,by omega,by go_num,R.1,R.2,HO.mono (by omega)⟩,?_⟩;simp[intOf];omega
       ·have f5:((j+1+f)%(g:Int)!=(s:Int))=true:=by
         have:¬((j+1+f)%(g:Int)=(s:Int)):=fun e=>a2 (HJ.1 e)
         simpa using this
        have j2:=hid a2;clear a2
        go_wp2_with fail
        go_roundw
        case rel=>exact⟨f+1,by omega,by have:=j2.out;omega,by rw[show j+1+(f+1)=j+1+f+1 by omega],trivial⟩
        case measure=>simp[intOf];have:=j2.out;omega
  ·obtain rfl:a=6:=by omega
   have o4:Hid (b=M):=W.out;clear W
   go_wp2_with fail
   go_ret
   refine⟨rfl,?_⟩;rw[<-o4.out];exact⟨C1,Y1,k.1,k.2.1,k.2.2.1,k.2.2.2⟩
end
theorem ahT{w:World}{q n:Nat}(h:w.heap[q]?=some (.cells (fe (bQ n)) 5 (0,0))):(convert 60 9 (.slice (some ⟨q,0,none⟩) n n)).run prog w=.ok (.string (bQ n)) w:=by
 have:=run_convert_bytes_back (P:=prog) w 60 9 5 ⟨q,0,none⟩ n (bQ n).data.toList underlying60 underlying5 underlying9 (fun b a=>by
  rw[Addr.add_lit,aG _ q (0+b) _ _ _ h,Nat.zero_add,so a,jC a])
 rw[<-bj,dk]at this;rw[this]
theorem nQ{X:World}{b:Nat}{o a:Obj}(h:X.heap[b]?=some o):(X.alloc a).heap[b]?=some o:=(Below.heap_alloc _ _ _ (ah h)).trans h
theorem ll{X a:World}{b:Nat}{o:Obj}(c:Below X.heap.size X a)(h:X.heap[b]?=some o):a.heap[b]?=some o:=(c.block b (ah h)).trans h
theorem RJ.at{w w':World}{m gn gs r:Nat}{E:Nat->Nat×St}{d:Bool}(h:RJ w m gn gs r E d)(b:Below w.heap.size w w'):RJ w' m gn gs r E d:=h.kept (S:=fun _=>False) (Kept.of_below b) (fun a=>a) (fun a=>a) (fun a=>a)
theorem RWN.fin{w wr W W3:World}{C:Nat->Nat}{aw:Option Addr}{cap k:Nat}{nv:Value}{K:Nat->RB}{zs:List Int}(p:Hid (RWN w wr C w.heap.size nv K aw cap zs k))(q:k<7)(l:Hid (Below wr.heap.size wr W))(r:Hid (RP W W3.heap.size (bQ 512) false 0 false))(s:Hid (W3.heap.size=wr.heap.size+1∧W.heap.size=wr.heap.size+2)):∀(a w1 g:World) (t mm gn gs gb ls dn b c h:Nat),Below W.heap.size W w1->Below w1.heap.size w1 a->RJ w1 mm gn gs W3.heap.size (au (bQ 512).data.toList) false->RSt w1 t mm gb (k:Int) (fun _=>false)->(W.heap.size<=t∧W.heap.size<=mm∧W.heap.size<=gn∧W.heap.size<=gs∧W.heap.size<=gb)->(t≠mm∧t≠gn∧t≠gs∧t≠gb)->(gb≠mm∧gb≠gn∧gb≠gs)->(ls≠t∧ls≠mm∧ls≠gn∧ls≠gs∧ls≠gb)->(dn≠t∧dn≠mm∧dn≠gn∧dn≠gs∧dn≠gb)->(W.heap.size<=ls∧W.heap.size<=dn∧ls≠dn∧ls<b∧dn<b∧w1.heap.size<=b)->a.heap[b]?=some (.cells #[.pointer (some ⟨t,0,none⟩),.pointer (some ⟨W3.heap.size,0,none⟩),.slice (some ⟨ls,0,none⟩) 6 6,.slice (some ⟨dn,0,none⟩) 6 6] 69 (0,0))->a.heap[ls]?=some (.cells #[.pointer none,.pointer none,.pointer none,.pointer none,.pointer none,.pointer none] 111 (0,0))->a.heap[dn]?=some (.cells #[.bool false,.bool false,.bool false,.bool false,.bool false,.bool false] 4 (0,0))->g.ownsRow w.heap.size 63 1 (.slice (some ⟨c,0,none⟩) (k+1) h) (k+1) (gP K k++[.pointer (some ⟨b,0,none⟩)])->a.grownBy g nv.ownBlock->(nv.ownBlock=some c∨c=a.heap.size)->∃C' u,RWN w (g.setCell ⟨w.heap.size,1,none⟩ (.slice (some ⟨c,0,none⟩) (k+1) h)) C' w.heap.size (.slice (some ⟨c,0,none⟩) (k+1) h) u aw cap zs (k+1):=by
 intro a w1 g t mm gn gs gb ls dn b c h d e f i D E F G H I m n o v x y;obtain⟨J,L⟩:=s.out;obtain⟨M,N,O⟩:=f.lts;have P:=ah i.row;have Q:=ah i.refs;have R:=d.size;have S:=e.size;have T:=ah m;have U:=ah n;have V:=ah o;have X:=f.mn;have Y:=f.ms;have Z:=f.ns;have z:RNew a k b t mm gn gs gb W3.heap.size ls dn:=⟨m,r.kept (S:=fun _=>False) (Kept.of_below (d.trans (e.mono d.size))) (fun A=>A),f.at e,i.later e,n,o⟩;have B:Dis9 b t mm gn gs gb W3.heap.size ls dn:=⟨by omega,by omega,by omega,by omega,by omega,by omega,by omega,by omega,by omega,by omega,by omega,by omega,by omega,by omega,by omega,by omega,by omega,by omega,by omega,by omega,by omega,by omega,by omega,by omega,by omega,by omega,by omega,by omega,by omega,by omega,by omega,by omega,by omega,by omega,by omega,by omega⟩;exact p.add q ((l.trans ((d.trans (e.mono d.size)).mono l.size))) z B ⟨by omega,by omega,by omega,by omega,by omega,by omega,by omega,by omega,by omega⟩ ⟨by omega,by omega,by omega,by omega,by omega,by omega,by omega,by omega,by omega⟩ v x (by
  rcases y with j|j
  ·exact .inl j.symm
  ·exact .inr (by rw[j];rfl))
abbrev dg:Array Oper:=#[{ dst:=some 19,op:=Op.move (Operand.tmp 3),type:=40,pos:= "world.go:231",after:=#[],guard:=none },
 { dst:=some 20,op:=Op.move (Operand.tmp 3),type:=40,pos:= "world.go:231",after:=#[],guard:=none },
 { dst:=some 21,op:=Op.nilCheck (Operand.tmp 20),type:=0,pos:= "world.go:231",after:=#[{ on:=1,ground:=Ground.data }],guard:=none },
 { dst:=some 22,op:=Op.fieldAddr 58 (Operand.tmp 21) 1,type:=0,pos:= "world.go:231",after:=#[{ on:=2,ground:=Ground.data }],guard:=none },
 { dst:=some 23,op:=Op.load 53 (Operand.tmp 22),type:=53,pos:= "world.go:231",after:=#[{ on:=3,ground:=Ground.data }],guard:=none },
 { dst:=some 24,op:=Op.move (Operand.tmp 4),type:=3,pos:= "world.go:231",after:=#[],guard:=none },
 { dst:=some 25,op:=Op.move (Operand.tmp 5),type:=59,pos:= "world.go:231",after:=#[],guard:=none },
 { dst:=some 26,op:=Op.call { callee:=Callee.value (Operand.func 21),args:=#[Operand.tmp 24,Operand.tmp 25],argTypes:=#[3,59] },type:=64,pos:= "world.go:231",after:=#[{ on:=5,ground:=Ground.data },{ on:=6,ground:=Ground.data }],guard:=none },
 { dst:=some 27,op:=Op.move (Operand.tmp 5),type:=59,pos:= "world.go:231",after:=#[],guard:=none },
 { dst:=some 28,op:=Op.makeSlice 66 (Operand.const (Value.int IntKind.i64 6)) (Operand.const (Value.int IntKind.i64 6)),type:=66,pos:= "world.go:231",after:=#[],guard:=none },
 { dst:=some 29,op:=Op.makeSlice 67 (Operand.const (Value.int IntKind.i64 6)) (Operand.const (Value.int IntKind.i64 6)),type:=67,pos:= "world.go:231",after:=#[],guard:=none },
 { dst:=some 30,op:=Op.build 69 #[(0,Operand.tmp 26),(1,Operand.tmp 27),(2,Operand.tmp 28),(3,Operand.tmp 29)],type:=69,pos:= "world.go:231",after:=#[{ on:=7,ground:=Ground.data },{ on:=8,ground:=Ground.data },{ on:=9,ground:=Ground.data },{ on:=10,ground:=Ground.data }],guard:=none },
 { dst:=some 31,op:=Op.box 69 (Operand.tmp 30),type:=63,pos:= "world.go:231",after:=#[{ on:=11,ground:=Ground.data }],guard:=none },
 { dst:=some 32,op:=Op.buildSlice 53 1 #[(0,Operand.tmp 31)],type:=53,pos:= "world.go:231",after:=#[{ on:=12,ground:=Ground.data }],guard:=none },
 { dst:=some 33,op:=Op.call { callee:=Callee.builtin Builtin.append,args:=#[Operand.tmp 23,Operand.tmp 32],argTypes:=#[53,53] },type:=53,pos:= "world.go:231",after:=#[{ on:=4,ground:=Ground.data },{ on:=13,ground:=Ground.data },{ on:=7,ground:=Ground.chain }],guard:=none },
 { dst:=some 34,op:=Op.nilCheck (Operand.tmp 19),type:=0,pos:= "world.go:231",after:=#[{ on:=0,ground:=Ground.data },{ on:=0,ground:=Ground.phase },{ on:=1,ground:=Ground.phase },{ on:=2,ground:=Ground.phase },{ on:=3,ground:=Ground.phase },{ on:=4,ground:=Ground.phase },{ on:=5,ground:=Ground.phase },{ on:=6,ground:=Ground.phase },{ on:=7,ground:=Ground.phase },{ on:=8,ground:=Ground.phase },{ on:=9,ground:=Ground.phase },{ on:=10,ground:=Ground.phase },{ on:=11,ground:=Ground.phase },{ on:=12,ground:=Ground.phase },{ on:=13,ground:=Ground.phase },{ on:=14,ground:=Ground.phase }],guard:=none },
 { dst:=some 35,op:=Op.fieldAddr 58 (Operand.tmp 34) 1,type:=0,pos:= "world.go:231",after:=#[{ on:=15,ground:=Ground.data },{ on:=0,ground:=Ground.phase },{ on:=1,ground:=Ground.phase },{ on:=2,ground:=Ground.phase },{ on:=3,ground:=Ground.phase },{ on:=4,ground:=Ground.phase },{ on:=5,ground:=Ground.phase },{ on:=6,ground:=Ground.phase },{ on:=7,ground:=Ground.phase },{ on:=8,ground:=Ground.phase },{ on:=9,ground:=Ground.phase },{ on:=10,ground:=Ground.phase },{ on:=11,ground:=Ground.phase },{ on:=12,ground:=Ground.phase },{ on:=13,ground:=Ground.phase },{ on:=14,ground:=Ground.phase }],guard:=none },
 { dst:=none,op:=Op.store 53 (Operand.tmp 35) (Operand.tmp 33),type:=0,pos:= "world.go:231",after:=#[{ on:=16,ground:=Ground.data },{ on:=14,ground:=Ground.data },{ on:=14,ground:=Ground.chain },{ on:=0,ground:=Ground.phase },{ on:=1,ground:=Ground.phase },{ on:=2,ground:=Ground.phase },{ on:=3,ground:=Ground.phase },{ on:=4,ground:=Ground.phase },{ on:=5,ground:=Ground.phase },{ on:=6,ground:=Ground.phase },{ on:=7,ground:=Ground.phase },{ on:=8,ground:=Ground.phase },{ on:=9,ground:=Ground.phase },{ on:=10,ground:=Ground.phase },{ on:=11,ground:=Ground.phase },{ on:=12,ground:=Ground.phase },{ on:=13,ground:=Ground.phase },{ on:=14,ground:=Ground.phase }],guard:=none }]
def Sm(a0 a:Act):Prop:=a.tmps.size=a0.tmps.size∧a.defers=a0.defers∧∀i:Nat,(i<19∨i=36)->a.eval (.tmp i)=a0.eval (.tmp i)
theorem Sm.put{c a:Act}{d:Nat}{v:Value}(h:Sm c a)(h1:19<=d)(f:d<=35):Sm c (a.put (some d) v):=
 ⟨(Act.size_put _ _ _).trans h.1,(Act.defers_put' _ _ _).trans h.2.1,fun b e=>(bE a d b v (show d≠b by omega)).trans (h.2.2 b e)⟩
structure NwI (a0:Act) (W w:World) (a:Act) (nv:Value) (xb k r:Nat) (ld cl lL lD:Bool) (t mm gn gs gb ls dn:Nat):Prop where
 sm:Sm a0 a
 sz:a0.tmps.size=37
 e19:a.eval (.tmp 19)=.pointer (some ⟨xb,0,none⟩)
 e22:a.eval (.tmp 22)=.pointer (some ⟨xb,1,none⟩)
 e24:a.eval (.tmp 24)=.int .i64 (k:Int)
 e25:a.eval (.tmp 25)=.pointer (some ⟨r,0,none⟩)
 e27:a.eval (.tmp 27)=.pointer (some ⟨r,0,none⟩)
 bel:Below W.heap.size W w
 e23:ld=true->a.eval (.tmp 23)=nv
 site:cl=true->a.eval (.tmp 26)=.pointer (some ⟨t,0,none⟩)∧RJ w mm gn gs r (au (bQ 512).data.toList) false∧RSt w t mm gb (k:Int) (fun _=>false)∧(W.heap.size<=t∧W.heap.size<=mm∧W.heap.size<=gn∧W.heap.size<=gs∧W.heap.size<=gb)∧(t≠mm∧t≠gn∧t≠gs∧t≠gb)∧(gb≠mm∧gb≠gn∧gb≠gs)
 leads:lL=true->a.eval (.tmp 28)=.slice (some ⟨ls,0,none⟩) 6 6∧w.heap[ls]?=some (.cells #[.pointer none,.pointer none,.pointer none,.pointer none,.pointer none,.pointer none] 111 (0,0))∧W.heap.size<=ls
 done:lD=true->a.eval (.tmp 29)=.slice (some ⟨dn,0,none⟩) 6 6∧w.heap[dn]?=some (.cells #[.bool false,.bool false,.bool false,.bool false,.bool false,.bool false] 4 (0,0))∧W.heap.size<=dn
 xLD:lL=true->lD=true->ls≠dn
 xLS:lL=true->cl=true->ls≠t∧ls≠mm∧ls≠gn∧ls≠gs∧ls≠gb
 xDS:lD=true->cl=true->dn≠t∧dn≠mm∧dn≠gn∧dn≠gs∧dn≠gb
section
variable {Q:Exit→Act→World→Prop} {a0:Act} {W w:World} {a:Act} {nv:Value} {xb k r:Nat} {ld cl lL lD:Bool} {t mm gn gs gb ls dn:Nat} {K:Act→World→Prop}
theorem NwI.size(h:NwI a0 W w a nv xb k r ld cl lL lD t mm gn gs gb ls dn):a.tmps.size=37:=h.sm.1.trans h.sz
theorem NwI.load(h:NwI a0 W w a nv xb k r ld cl lL lD t mm gn gs gb ls dn):NwI a0 W w (a.put (some 23) nv) nv xb k r true cl lL lD t mm gn gs gb ls dn:=by
 have f:=h.size;have b:∀d,d≠23->(a.put (some 23) nv).eval (.tmp d)=a.eval (.tmp d):=fun d e=>bE _ _ _ _ (Ne.symm e)
 exact⟨h.sm.put (by omega) (by omega),h.sz,(b _ (by decide)).trans h.e19,(b _ (by decide)).trans h.e22,(b _ (by decide)).trans h.e24,(b _ (by decide)).trans h.e25,(b _ (by decide)).trans h.e27,h.bel,fun _=>eP _ _ _ (by omega),fun c=>⟨(b _ (by decide)).trans (h.site c).1,(h.site c).2⟩,fun c=>⟨(b _ (by decide)).trans (h.leads c).1,(h.leads c).2⟩,fun c=>⟨(b _ (by decide)).trans (h.done c).1,(h.done c).2⟩,h.xLD,h.xLS,h.xDS⟩
theorem NwI.lead(h:NwI a0 W w a nv xb k r ld cl false lD t mm gn gs gb ls dn):NwI a0 W (w.alloc (.cells #[.pointer none,.pointer none,.pointer none,.pointer none,.pointer none,.pointer none] 111)) (a.put (some 28) (.slice (some ⟨w.heap.size,0,none⟩) 6 6)) nv xb k r ld cl true lD t mm gn gs gb w.heap.size dn:=by
 have m:=h.size;have c:∀d,d≠28->(a.put (some 28) (.slice (some ⟨w.heap.size,0,none⟩) 6 6)).eval (.tmp d)=a.eval (.tmp d):=fun d l=>bE _ _ _ _ (Ne.symm l)
 have f:bW w (w.alloc (.cells #[.pointer none,.pointer none,.pointer none,.pointer none,.pointer none,.pointer none] 111)):=aD;refine⟨h.sm.put (by omega) (by omega),h.sz,(c _ (by decide)).trans h.e19,(c _ (by decide)).trans h.e22,(c _ (by decide)).trans h.e24,(c _ (by decide)).trans h.e25,(c _ (by decide)).trans h.e27,h.bel.trans (f.mono h.bel.size),fun b=>(c _ (by decide)).trans (h.e23 b),fun b=>?_,fun _=>⟨eP _ _ _ (by omega),aB w _,h.bel.size⟩,fun b=>⟨(c _ (by decide)).trans (h.done b).1,nQ (h.done b).2.1,(h.done b).2.2⟩,fun _ b=>?_,fun _ b=>?_,h.xDS⟩
 ·obtain⟨i,g,e,j⟩:=h.site b
  exact⟨(c _ (by decide)).trans i,g.at f,e.later f,j⟩
 ·have:=ah (h.done b).2.1;omega
 ·obtain⟨i,g,e,j⟩:=h.site b
  obtain⟨n,o,p⟩:=g.lts;have q:=ah e.row;have s:=ah e.refs;omega
theorem NwI.dn_(h:NwI a0 W w a nv xb k r ld cl lL false t mm gn gs gb ls dn):NwI a0 W (w.alloc (.cells #[.bool false,.bool false,.bool false,.bool false,.bool false,.bool false] 4)) (a.put (some 29) (.slice (some ⟨w.heap.size,0,none⟩) 6 6)) nv xb k r ld cl lL true t mm gn gs gb ls w.heap.size:=by
 have m:=h.size;have c:∀d,d≠29->(a.put (some 29) (.slice (some ⟨w.heap.size,0,none⟩) 6 6)).eval (.tmp d)=a.eval (.tmp d):=fun d l=>bE _ _ _ _ (Ne.symm l)
 have f:bW w (w.alloc (.cells #[.bool false,.bool false,.bool false,.bool false,.bool false,.bool false] 4)):=aD;refine⟨h.sm.put (by omega) (by omega),h.sz,(c _ (by decide)).trans h.e19,(c _ (by decide)).trans h.e22,(c _ (by decide)).trans h.e24,(c _ (by decide)).trans h.e25,(c _ (by decide)).trans h.e27,h.bel.trans (f.mono h.bel.size),fun b=>(c _ (by decide)).trans (h.e23 b),fun b=>?_,fun b=>⟨(c _ (by decide)).trans (h.leads b).1,nQ (h.leads b).2.1,(h.leads b).2.2⟩,fun _=>⟨eP _ _ _ (by omega),aB w _,h.bel.size⟩,fun b _=>?_,h.xLS,fun _ b=>?_⟩
 ·obtain⟨i,g,e,j⟩:=h.site b
  exact⟨(c _ (by decide)).trans i,g.at f,e.later f,j⟩
 ·have:=ah (h.leads b).2.1;omega
 ·obtain⟨i,g,e,j⟩:=h.site b
  obtain⟨n,o,p⟩:=g.lts;have q:=ah e.row;have s:=ah e.refs;omega
theorem NwI.call{w1:World}{c m' f g e:Nat}(h:NwI a0 W w a nv xb k r ld false lL lD t mm gn gs gb ls dn)(j:RJ w1 m' f g r (au (bQ 512).data.toList) false)(m:RSt w1 c m' e (k:Int) (fun _=>false))(l:Below w.heap.size w w1)(o:w.heap.size<=m')(p:w.heap.size<=f)(q:w.heap.size<=g)(s:w.heap.size<=e)(ht:c≠m'∧c≠f∧c≠g∧c≠e)(u:w.heap.size<=c)(n:e≠m'∧e≠f∧e≠g):NwI a0 W w1 (a.put (some 26) (.pointer (some ⟨c,0,none⟩))) nv xb k r ld true lL lD c m' f g e ls dn:=by
 have v:=h.size;have x:=h.bel.size;have d:∀i,i≠26->(a.put (some 26) (pV c)).eval (.tmp i)=a.eval (.tmp i):=fun i j=>bE _ _ _ _ (Ne.symm j)
 refine⟨h.sm.put (by omega) (by omega),h.sz,(d _ (by decide)).trans h.e19,(d _ (by decide)).trans h.e22,(d _ (by decide)).trans h.e24,(d _ (by decide)).trans h.e25,(d _ (by decide)).trans h.e27,h.bel.trans (l.mono h.bel.size),fun b=>(d _ (by decide)).trans (h.e23 b),fun _=>⟨eP _ _ _ (by omega),j,m,⟨by omega,by omega,by omega,by omega,by omega⟩,ht,n⟩,fun b=>⟨(d _ (by decide)).trans (h.leads b).1,ll l (h.leads b).2.1,(h.leads b).2.2⟩,fun b=>⟨(d _ (by decide)).trans (h.done b).1,ll l (h.done b).2.1,(h.done b).2.2⟩,h.xLD,fun b _=>?_,fun b _=>?_⟩
 ·have:=ah (h.leads b).2.1;omega
 ·have:=ah (h.done b).2.1;omega
theorem iJ(h:NwI a0 W w a nv xb k r ld cl lL lD t mm gn gs gb ls dn)(f:w.cell? ⟨xb,1,none⟩=some nv)(b:∀c,NwI a0 W w c nv xb k r true cl lL lD t mm gn gs gb ls dn->K c w):wpOp prog dg Q 4 K a w:=by
 refine wpOp_step (o:={ dst:=some 23,op:=Op.load 53 (Operand.tmp 22),type:=53,pos:= "world.go:231",after:=#[{ on:=3,ground:=Ground.data }],guard:=none }) rfl (fun g d=>?_);have i:=aZ h.e22;have e:=hid (d _ _ (b _ h.load));clear b d h
 go_simp
 exact e
theorem iF(h:NwI a0 W w a nv xb k r ld cl false lD t mm gn gs gb ls dn)(b:∀c w' e,NwI a0 W w' c nv xb k r ld cl true lD t mm gn gs gb e dn->K c w'):wpOp prog dg Q 9 K a w:=by
 refine wpOp_step (o:={ dst:=some 28,op:=Op.makeSlice 66 (Operand.const (Value.int IntKind.i64 6)) (Operand.const (Value.int IntKind.i64 6)),type:=66,pos:= "world.go:231",after:=#[],guard:=none }) rfl (fun g d=>?_);have i:=adt w;have f:=hid (d _ _ (b _ _ _ h.lead));clear b d h
 go_simp
 exact f
theorem iz(h:NwI a0 W w a nv xb k r ld cl lL false t mm gn gs gb ls dn)(b:∀c w' e,NwI a0 W w' c nv xb k r ld cl lL true t mm gn gs gb ls e->K c w'):wpOp prog dg Q 10 K a w:=by
 refine wpOp_step (o:={ dst:=some 29,op:=Op.makeSlice 67 (Operand.const (Value.int IntKind.i64 6)) (Operand.const (Value.int IntKind.i64 6)),type:=67,pos:= "world.go:231",after:=#[],guard:=none }) rfl (fun g d=>?_);have i:=adw w;have f:=hid (d _ _ (b _ _ _ h.dn_));clear b d h
 go_simp
 exact f
theorem iG(h:NwI a0 W w a nv xb k r ld false lL lD t mm gn gs gb ls dn)(b:RP W r (bQ 512) false 0 false)(c:∀d w' e m' f g i,NwI a0 W w' d nv xb k r ld true lL lD e m' f g i ls dn->K d w'):wpOp prog dg Q 7 K a w:=by
 refine wpOp_step (o:={ dst:=some 26,op:=Op.call { callee:=Callee.value (Operand.func 21),args:=#[Operand.tmp 24,Operand.tmp 25],argTypes:=#[3,59] },type:=64,pos:= "world.go:231",after:=#[{ on:=5,ground:=Ground.data },{ on:=6,ground:=Ground.data }],guard:=none }) rfl (fun I j=>?_);have J:=aZ h.e24;have L:=aZ h.e25;have l:=hid (uc r (bQ 512) false false 0 (k:Int) w (b.kept (S:=fun _=>False) (Kept.of_below h.bel) (fun m=>m)) (by rw[dk];omega) (by rw[dk];omega));have n:=hid h;have o:=hid c;have p:=hid j;clear c j h b
 go_simp
 refine l.mono ?_;rintro M N ⟨e,m',f,g,i,rfl,q,s,u,v,x,y,z,A,B,C,D,E,F,G,H⟩;exact p _ _ (o _ _ _ _ _ _ _ (n.call q s u v x y z ⟨A,B,C,D⟩ E ⟨F,G,H⟩))
end
end Go.Proofs.YtaehdgemkafinaaGreatDoor
namespace Go.Proofs.YtaehdgemkafinaaGreatDoor
open Go.ChangeShapes Go.WideShapes Go.RowKit
open Go.Proofs.Tryz
def qw:List String:=["threefold/api.ErrText","threefold/api.ErrBound","threefold/api.ErrShape","threefold/api.ErrNone","threefold/api.ErrFull","threefold/api.ErrOff","threefold/api.ErrHeld","threefold/api.ErrSplit"]
def vP:List Bs:=[fC 1,fC 2,fC 3,fC 4,fC 5,fC 6,fC 8,fC 9]
abbrev gs8:List Nat:=[1,0,2,3,4,5,7,8]
theorem ahF:((Rows.scriptAnewRow.laid.filter fun x=>qw.contains x.1).filter fun x=>x.2.handleName?.isNone).map (fun x=>prog.globalNamed x.1)=gs8.map some:=by kernel_rfl
theorem ajf:((Rows.scriptAnewRow.laid.filter fun x=>qw.contains x.1).filter fun x=>x.2.handleName?.isNone).map (·.2)=vP.map ahO:=by kernel_rfl
theorem aio:(gs8.all fun g=>((prog.globals[g]?).map (·.type))==some 25)=true:=by kernel_rfl
theorem ab5{W:World}:∀(l:List (String×DataW Unit)) (gs:List Nat) (o:List (List UInt8)),
  l.map (fun x=>prog.globalNamed x.1)=gs.map some->(∀g∈gs,(prog.globals[g]?).map (·.type)=some 25)->l.map (·.2)=o.map ahO ->
  ∀ps,DataW.LaidVars prog W l ps->ps.Nodup ->
  (∀b p,MemPlace.cell b p∈ps->(∃c t,W.heap[b]?=some (.cells c t (0,0)))∧∀j v,W.cell? ⟨b,p,none⟩=some (.iface j v)->Value.okWide prog W .any 0 j v) ->
  ∃k:List Addr,k.length=gs.length∧k.Nodup∧(∀a∈k,MemPlace.cell a.block a.off∈ps∧a.spot=none)∧∀(i g:Nat) (a:Addr),gs[i]?=some g->k[i]?=some a->Sent W g a∧∃s:ByteArray,W.cell? a=some (.string s)∧o[i]?=some s.data.toList
 | [],[],_,_,_,_,_,_,_,_=>⟨[],rfl,List.nodup_nil,(fun a h=>by cases h),fun i g a h=>by simp at h⟩
 | [],_::_,_,h,_,_,_,_,_,_=>by simp at h
 | _::_,[],_,h,_,_,_,_,_,_=>by simp at h
 | _::_,_::_,[],_,_,h,_,_,_,_=>by simp at h
 | (n,d)::l,g::gs,text::o,q,ht,r,ps,I,y,z=>by
  simp only[List.map_cons,List.cons.injEq]at q r;obtain⟨E,q⟩:=q;obtain⟨J,r⟩:=r;obtain⟨u,t,K,a0,a1,L,M,N,O,P,Q,rfl⟩:=I;obtain rfl:=bF (E.symm.trans M);obtain rfl:=bF ((ht g (List.mem_cons_self)).symm.trans N);subst J;obtain⟨F⟩:=K;have G:∀v,F=[v]->W.cell? ⟨g,0,none⟩=some v:=fun v w=>by subst w;simpa using World.var?_cell E O 0
  have R:∀j v,F=[.iface j v]->Value.okWide prog W .any 0 j v:=fun j v w=>(z g 0 (by subst w;simp[MemPlace.row])).2 j v (G _ w)
  obtain⟨f,H,rfl,m,S,a2,rfl⟩:=errorString_of_trod underlying25 ahb underlying318 underlying336 rfl rfl underlying9 abQ wP P R;have T:=(z f.block f.off (by simp[MemPlace.row])).1;obtain⟨k,U,V,A,X⟩:=ab5 l gs o q (fun u e=>ht u (List.mem_cons_of_mem _ e)) r L Q (y.sublist (List.sublist_append_right _ _)) (fun b p e=>z b p (List.mem_append_right _ e));have Y:f.spot=none:=by
   cases B:f.spot with
   | none=>rfl
   | some a3=>unfold World.cell? at m;rw[B]at m;revert m;split<;>simp
  refine⟨f::k,by simp[U],?_,?_,?_⟩
  ·refine List.nodup_cons.2 ⟨fun e=>?_,V⟩
   have B:=(A f e).1;rw[List.append_assoc]at y;have Z:=(List.nodup_append.1 (List.nodup_append.1 y).2.1).2.2 (MemPlace.cell f.block f.off) (by simp[MemPlace.row]) _ B;exact Z rfl
  ·intro a e
   rcases List.mem_cons.1 e with rfl|e
   ·exact⟨by simp[MemPlace.row],Y⟩
   ·exact⟨List.mem_append_right _ (A a e).1,(A a e).2⟩
  ·intro i u a C D
   cases i with
   | zero =>
    simp at C D;subst C;subst D;exact⟨⟨G _ rfl,⟨H,m⟩,T⟩,H,m,by rw[S];rfl⟩
   | succ i =>
    obtain⟨k1,s,k2,k3⟩:=X i u a (by simpa using C) (by simpa using D);exact⟨k1,s,k2,by simpa using k3⟩
def ix8(i:Nat):Nat:=if i<6 then i else i-1
theorem kr:∀i,i<9∧i≠6->ix8 i<8∧gs8[ix8 i]?=some (gN i)∧vP[ix8 i]?=some (fC (i+1)):=by
 intro i a;have:i=0∨i=1∨i=2∨i=3∨i=4∨i=5∨i=7∨i=8:=by omega
 rcases this with rfl|rfl|rfl|rfl|rfl|rfl|rfl|rfl<;>exact⟨by decide,rfl,rfl⟩
theorem agV{i j:Nat}(a:i<9∧i≠6)(b:j<9∧j≠6)(h:ix8 i=ix8 j):i=j:=by
 unfold ix8 at h
 split at h<;>split at h<;>omega
theorem tz{W:World}(h:laidMetH prog (Rows.scriptAnewRow.laid.filter fun x=>qw.contains x.1) W):∃A,Held9 W A∧se W A:=by
 obtain⟨⟨l,m,n,o⟩,-⟩:=laidMetH_iff.1 h;obtain⟨c,p,q,-,r⟩:=ab5 _ gs8 _ ahF (fun s t=>by simpa using List.all_eq_true.1 aio s t) ajf l m n o;have D:c.length=8:=by rw[p];rfl
 have e:∀a (b:a<8),c[a]?=some (c.getD a ⟨0,0,none⟩):=by
  intro a b;rw[List.getD_eq_getElem?_getD,cG (by omega)];rfl
 have f:∀a,a<9∧a≠6->Sent W (gN a) (c.getD (ix8 a) ⟨0,0,none⟩)∧∃d:ByteArray,W.cell? (c.getD (ix8 a) ⟨0,0,none⟩)=some (.string d)∧vP[ix8 a]?=some d.data.toList:=fun a b =>
  r (ix8 a) (gN a) _ (kr a b).2.1 (e _ (kr a b).1)
 refine⟨fun a=>c.getD (ix8 a) ⟨0,0,none⟩,⟨fun a b=>(f a b).1.var,fun a g b i u v=>?_,fun a b=>(f a b).1.row⟩,fun a b=>?_⟩
 ·have j:=e _ (kr a b).1
  have w:=e _ (kr g i).1;have y:c.getD (ix8 a) ⟨0,0,none⟩=c.getD (ix8 g) ⟨0,0,none⟩:=v;rw[y]at j;exact u (agV b i ((List.getElem?_inj (by have:=(kr a b).1;omega) q).1 (j.trans w.symm)))
 ·obtain⟨d,z,B⟩:=(f a b).2
  rw[z];have k:=(kr a b).2.2;rw[B]at k;have C:d.data.toList=fC (a+1):=bF k;rw[show d=bB (fC (a+1))from ByteArray.ext (Array.ext' C)]
theorem aiJ:(Rows.scriptAnewRow.laid.filter fun x=>x.1 == "internal/strconv.uint64pow10")=[("internal/strconv.uint64pow10",Lib.tabData .u64 Lib.pow10Tab)]:=by kernel_rfl
theorem aiy:prog.globalNamed "internal/strconv.uint64pow10"=some 10:=by kernel_rfl
theorem ajb:(prog.globals[10]?).map (·.type)=some 285:=by kernel_rfl
theorem tD{W:World}(h:laidMetH prog Rows.scriptAnewRow.laid W):∃A,Held9 W A∧se W A∧TabO W:=by
 obtain⟨A,d,e⟩:=tz (h.filter fun b=>qw.contains b.1);have c:=h.filter fun b=>b.1 == "internal/strconv.uint64pow10"
 rw[aiJ]at c;have f:=(laidMetH_iff.1 c).1;have a:Lib.TabIs prog W "internal/strconv.uint64pow10" .u64 Lib.pow10Tab:=Lib.tabIs_of_head aiy ajb underlying285 underlying268 (by kernel_rfl) (by kernel_rfl) f;refine⟨A,d,e,?_⟩;unfold Lib.TabIs World.var? at a;rw[aiy,Option.bind_some]at a
 split at a
 ·rename_i k g i j
  exact⟨g,i,by rw[j,bF a]⟩
 ·cases a
end Go.Proofs.YtaehdgemkafinaaGreatDoor
