/-
  On the way to SPlaysProof: JM JO JQ JS RVP S6 S5 S7 S1.
-/
import Derived.Test.YtaehdgemkafinaaGreatDoorBx10
import Derived.Test.YtaehdgemkafinaaGreatDoorBx5
import Derived.Maps.OwnSet
set_option maxHeartbeats 8000000
set_option maxRecDepth 100000
namespace Go.Proofs.YtaehdgemkafinaaGreatDoor
open Go.RowKit
open Go.Proofs.Tryz
structure POut where
 c:Nat
 e:Nat->Nat×St
 over:Bool
 b:ByteArray
 l:Int
def bK(E:Nat->Nat×St)(B:ByteArray)(l:Int)(d:Nat)(s:St):POut:=
 @ite POut ((E d).2=s) (ad7 (E d).2 s) ⟨0,E,false,B,l⟩ <| if(E d).1=4294967295 then⟨5,E,false,B,l⟩
 else if(bf B l (dt d (E d).1) ((E d).1+1) s).c=0 then⟨0,iM E d ((E d).1+1,s),false,(bf B l (dt d (E d).1) ((E d).1+1) s).b,(bf B l (dt d (E d).1) ((E d).1+1) s).l⟩
 else⟨(bf B l (dt d (E d).1) ((E d).1+1) s).c,E,true,(bf B l (dt d (E d).1) ((E d).1+1) s).b,(bf B l (dt d (E d).1) ((E d).1+1) s).l⟩
def In3(j p q k:Nat):Prop:=k=j∨k=p∨k=q
theorem yu(d n r:Nat)(a:Int)(w:World)(b:a=(n:Int))(c:d<=100)(f:n<4294967296)(g:18*(2*d+n%2)=r):Calls prog 198 #[.int .i64 (d:Int),.int .u32 a] w fun e w'=>e=.returned (.int .i64 (r:Int))∧w'=w:=by
 subst b;exact uO d n r w c f g
theorem ace(n ph p a:Nat)(b:Int)(w:World)(c:b=(n:Int))(d:n<4294967296)(h1:ph<256)(f:p<4294967296)(g:a<4294967296):Calls prog 245 #[.agg #[.int .i64 (ph:Int),.int .i64 (p:Int),.int .i64 (a:Int),.int .u32 b]] w fun e w'=>e=.returned (.string (bA (aY n ⟨ph,p,a⟩++[165])))∧Below w.heap.size w w':=by
 subst c;exact xA n ph p a w d h1 f g
section
variable (A:Nat→Addr) (w0 w:World) (j p q:Nat) (E:Nat→Nat×St) (B:ByteArray) (l:Int)
theorem ag1(over:Bool)(k n r:Nat)(s:St)(h:JP w0 w j p q E over B l)(a:HeldE w0 A)(b:k<12)(c:18*k=r)(d:(bf B l k n s).c=0):Calls prog 244 #[.pointer (some ⟨j,0,none⟩),.int .i64 (r:Int),.string (bA (aY n s++[165]))] w fun e w'=>e=.returned .nilIface∧JP w0 w' j p q E over (bf B l k n s).b (bf B l k n s).l∧Kept (In2 p q) w w':=by
 have:=vd A w0 w j p q E over B l k n s h a b;rw[d,c]at this;exact this
theorem afG(over:Bool)(k n r:Nat)(s:St)(c:Nat)(h:JP w0 w j p q E over B l)(a:HeldE w0 A)(b:k<12)(d:18*k=r)(f:(bf B l k n s).c=c+1):Calls prog 244 #[.pointer (some ⟨j,0,none⟩),.int .i64 (r:Int),.string (bA (aY n s++[165]))] w fun e w'=>e=.returned (.iface 318 (.pointer (some (A c))))∧JP w0 w' j p q E over (bf B l k n s).b (bf B l k n s).l∧Kept (In2 p q) w w':=by
 have:=vd A w0 w j p q E over B l k n s h a b;rw[f,d]at this;exact this
theorem adK(d ph pr a:Int)(h:JP w0 w j p q E true B l)(b:HeldE w0 A):Calls prog 216 #[.pointer (some ⟨j,0,none⟩),.int .i64 d,.agg #[.int .i64 ph,.int .i64 pr,.int .i64 a]] w fun e w'=>e=.returned (.iface 318 (.pointer (some (A 5))))∧JP w0 w' j p q E true B l∧Kept (In3 j p q) w w':=by
 have g:=h.jr.over;have i:=h.jr.lt;have c:=(h.held b).g5;have k:=oW (o:=.cells #[iV ph,iV pr,iV a] 80) c;have f:=hid (h.later (aF.alloc aj (.cells #[iV ph,iV pr,iV a] 80)));clear h b
 go_enter func216,ntmps216
 go_wp2_with fail
 go_ret
 exact⟨rfl,f,eI _ _ _⟩
theorem abI(d ph pr a:Int)(h:JP w0 w j p q E false B l)(c:HeldE w0 A)(f:¬((0<=d∧d<6)∧fQ ph pr a=true)):Calls prog 216 #[.pointer (some ⟨j,0,none⟩),.int .i64 d,.agg #[.int .i64 ph,.int .i64 pr,.int .i64 a]] w fun e w'=>e=.returned (.iface 318 (.pointer (some (A 1))))∧JP w0 w' j p q E false B l∧Kept (In3 j p q) w w':=by
 have x:=h.jr.over;have y:=h.jr.lt;have s:=(h.held c).g1;have z:=oW (o:=.cells #[iV ph,iV pr,iV a] 80) s;have n:=hid (h.later (aF.alloc aj (.cells #[iV ph,iV pr,iV a] 80)));have t:=hid c;clear h c
 by_cases b:0<=d∧d<6
 ·have o:fQ ph pr a=false:=by
   cases g:fQ ph pr a
   ·rfl
   ·exact absurd ⟨b,g⟩ f
  have i:=hid (bo b);have u:=hid o;clear f o b
  go_enter func216,ntmps216
  go_wp2_with (first|(go_at_call 188;refine(ln d _).mono ?_;rw[i.out];rintro e k ⟨rfl,g⟩;subst k)|(go_at_call 243;refine(vj ph pr a _).mono ?_;rw[u.out];rintro e C ⟨rfl,m⟩;have r:=hid (n.later m);have v:=hid ((eI (In3 j p q) w _).trans (Kept.of_below m));have D:=(r.held t).g1;clear m))
  go_ret
  exact⟨rfl,r,v.out⟩
 ·have i:=hid (aS b)
  clear f b
  go_enter func216,ntmps216
  go_wp2_with (go_at_call 188;refine(ln d _).mono ?_;rw[i.out];rintro e k ⟨rfl,g⟩;subst k)
  go_ret
  exact⟨rfl,n,eI _ _ _⟩
theorem ah4(d:Nat)(s:St)(h:JP w0 w j p q E false B l)(hE:HeldE w0 A)(hd:d<6)(S:fQ s.ph s.pr s.at_=true)(hn:(E d).1<4294967296):Calls prog 216 #[.pointer (some ⟨j,0,none⟩),.int .i64 (d:Int),.agg #[.int .i64 (s.ph:Int),.int .i64 (s.pr:Int),.int .i64 (s.at_:Int)]] w fun e w'=>e=.returned (ev A (bK E B l d s).c)∧JP w0 w' j p q (bK E B l d s).e (bK E B l d s).over (bK E B l d s).b (bK E B l d s).l∧Kept (In3 j p q) w w':=by
 have HK:Hid (decide (0<=(d:Int)∧(d:Int)<6)=true):=bo ⟨by omega,by omega⟩;have HF:=hid S;have HE:=hid hE;obtain⟨T,N⟩:=nmd (bK E B l d s);rw[N.out];obtain⟨b,c,f⟩:=s;obtain⟨y,U⟩:=nmd (w.alloc (.cells #[iV (b:Int),iV (c:Int),iV (f:Int)] 80));have hW:=U.out;have HJ:Hid (JP w0 y j p q E false B l):=by rw[<-U.out];exact h.later (aD)
 have O:Hid (y.heap[w.heap.size]?=some (.cells #[iV (b:Int),iV (c:Int),iV (f:Int)] 80 (0,0))):=by rw[<-U.out];exact aB w _
 have cW:=HJ.jr.over;have b6:y.cell? ⟨w.heap.size,0,none⟩=some (iV (b:Int)):=by rw[ai O.out];rfl
 have b7:y.cell? ⟨w.heap.size,1,none⟩=some (iV (c:Int)):=by rw[ai O.out];rfl
 have b8:y.cell? ⟨w.heap.size,2,none⟩=some (iV (f:Int)):=by rw[ai O.out];rfl
 have b0:w.heap.size<y.heap.size:=ah O.out;clear h hE S
 go_enter func216,ntmps216
 go_wp2_with (go_at_call 188;refine(ln d _).mono ?_;rw[HK.out];rintro e n ⟨rfl,hx⟩;subst n)
 refine(vj b c f _).mono ?_;rw[HF.out];rintro e u ⟨rfl,V⟩;have a1:=hid (HJ.later V);have K1:Hid (Kept (In3 j p q) w u):=by
  have k0:Kept (In3 j p q) w y:=by rw[<-U.out];exact eI _ _ _
  exact k0.trans (Kept.of_below V)
 have R1:=hid ((V.block _ b0).trans O.out);have b1:w.heap.size<u.heap.size:=ah R1.out;clear V;obtain⟨⟨g,D,F,G⟩,P⟩:∃b2,Hid (E d=b2):=⟨_,rfl⟩;have b9:=a1.jr.lt;obtain⟨c0,c1,c2,c3⟩:=a1.jr.ent hd;rw[P.out]at c0 c1 c2 c3 hn;obtain⟨a,Q⟩:=nmd (u.alloc (.cells #[iV (D:Int),iV (F:Int),iV (G:Int),.int .u32 (g:Int)] 164));have c4:=Q.out;have H:Hid (JP w0 a j p q E false B l):=by rw[<-Q.out];exact a1.later (aD)
 have KX:Hid (Kept (In3 j p q) w a):=by rw[<-Q.out];exact K1.out.trans (eI _ _ _)
 have W:Hid (a.heap[u.heap.size]?=some (.cells #[iV (D:Int),iV (F:Int),iV (G:Int),.int .u32 (g:Int)] 164 (0,0))):=by rw[<-Q.out];exact aB u _
 have RB:Hid (a.heap[w.heap.size]?=some (.cells #[iV (b:Int),iV (c:Int),iV (f:Int)] 80 (0,0))):=by rw[<-Q.out];exact(Below.heap_alloc u _ _ b1).trans R1.out
 have d0:a.cell? ⟨w.heap.size,0,none⟩=some (iV (b:Int)):=by rw[ai RB.out];rfl
 have d1:a.cell? ⟨w.heap.size,1,none⟩=some (iV (c:Int)):=by rw[ai RB.out];rfl
 have d2:a.cell? ⟨w.heap.size,2,none⟩=some (iV (f:Int)):=by rw[ai RB.out];rfl
 have o0:a.cell? ⟨u.heap.size,0,none⟩=some (iV (D:Int)):=by rw[ai W.out];rfl
 have o1:a.cell? ⟨u.heap.size,1,none⟩=some (iV (F:Int)):=by rw[ai W.out];rfl
 have o2:a.cell? ⟨u.heap.size,2,none⟩=some (iV (G:Int)):=by rw[ai W.out];rfl
 have o3:a.cell? ⟨u.heap.size,3,none⟩=some (.int .u32 (g:Int)):=by rw[ai W.out];rfl
 obtain⟨a5,HQ⟩:∃b4:Bool,Hid (nC ⟨D,F,G⟩ ⟨b,c,f⟩=b4):=⟨_,hid (Eq.refl _)⟩
 go_upto_region 6 with fail
 go_cut [33]from 10 (fun b5 n=>b5=.bool a5∧a=n)
 case first =>
  go_wp2_with fail
  all_goals go_meet
  all_goals refine⟨congrArg Value.bool ?_,rfl⟩
  all_goals rw[<-HQ.out]
  all_goals show _=decide (D=b∧F=c∧G=f)
  all_goals first|(refine(bo ?_).symm;omega)|(refine(aS ?_).symm;omega)
 case rest =>
  obtain⟨rfl,rfl⟩:=hcut
  cases a5 with
  | true =>
   have e:(⟨D,F,G⟩:St)=⟨b,c,f⟩:=lI HQ.out;have t:Hid (T=⟨0,E,false,B,l⟩):=by rw[<-N.out];unfold Hid bK;rw[P.out,af e]
   go_wp2_with fail
   go_ret
   exact⟨by rw[t.out];rfl,by rw[t.out];exact H,KX.out⟩
  | false =>
   have ne:¬(⟨D,F,G⟩:St)=⟨b,c,f⟩:=kD HQ.out;have c5:=H.jr.lt
   by_cases X:g=4294967295
   ·have t:Hid (T=⟨5,E,false,B,l⟩):=by rw[<-N.out];unfold Hid bK;rw[P.out,aa ne,af X]
    have g4:=(H.held HE.out).g4;subst X
    go_wp2_with fail
    go_ret
    exact⟨by rw[t.out];rfl,by rw[t.out];exact H,KX.out⟩
   ·obtain⟨o,Y⟩:=nmd (dt d g)
    obtain⟨I,HR⟩:=nmd (18*o);have a6:Hid (18*(2*d+(g+1)%2)=I):=by rw[<-HR.out,<-Y.out];rfl
    have a7:Hid (o<12):=by rw[<-Y.out];unfold Hid dt;omega
    have S:=cK HF.out;have L1:Hid (b<256):=by unfold Hid;omega
    have L2:Hid (c<4294967296):=by unfold Hid;omega
    have L3:Hid (f<4294967296):=by unfold Hid;omega
    have Z:g+1<4294967296:=by omega
    have a0:Hid (((g:Int)+1)=((g+1:Nat):Int)):=by unfold Hid;omega
    clear S;obtain⟨v,HY⟩:=nmd (a.alloc (.cells #[iV (b:Int),iV (c:Int),iV (f:Int),.int .u32 ((g:Int)+1)] 164));have hY:=HY.out;have a8:Hid (JP w0 v j p q E false B l):=by rw[<-HY.out];exact H.later (aD)
    have KY:Hid (Kept (In3 j p q) w v):=by rw[<-HY.out];exact KX.out.trans (eI _ _ _)
    have J:Hid (v.heap[a.heap.size]?=some (.cells #[iV (b:Int),iV (c:Int),iV (f:Int),.int .u32 ((g:Int)+1)] 164 (0,0))):=by rw[<-HY.out];exact aB a _
    have R:Hid (a.heap.size≠p∧a.heap.size≠q∧a.heap.size≠j):=⟨by have:=iP H.pl.head;omega,by have:=iP H.pl.row;omega,by omega⟩;have y0:v.cell? ⟨a.heap.size,0,none⟩=some (iV (b:Int)):=by rw[ai J.out];rfl
    have y1:v.cell? ⟨a.heap.size,1,none⟩=some (iV (c:Int)):=by rw[ai J.out];rfl
    have y2:v.cell? ⟨a.heap.size,2,none⟩=some (iV (f:Int)):=by rw[ai J.out];rfl
    have y3:v.cell? ⟨a.heap.size,3,none⟩=some (.int .u32 ((g:Int)+1)):=by rw[ai J.out];rfl
    have x:a.heap.size<v.heap.size:=ah J.out;rcases M:(bf B l o (g+1) ⟨b,c,f⟩).c with _|a3
    ·have HC:=hid M
     have t:Hid (T=⟨0,iM E d (g+1,⟨b,c,f⟩),false,(bf B l o (g+1) ⟨b,c,f⟩).b,(bf B l o (g+1) ⟨b,c,f⟩).l⟩):=by
      rw[<-N.out];unfold Hid bK;rw[P.out,aa ne,aa X];simp only[];rw[Y.out,af M]
     clear M
     go_upto_region 11 with fail
     go_cut [9]from 10 (fun s9 n=>s9=.nilIface∧JP w0 n j p q E false (bf B l o (g+1) ⟨b,c,f⟩).b (bf B l o (g+1) ⟨b,c,f⟩).l∧n.heap[a.heap.size]?=some (.cells #[iV (b:Int),iV (c:Int),iV (f:Int),.int .u32 ((g:Int)+1)] 164 (0,0))∧Kept (In3 j p q) w n)
     case first =>
      go_region_held3 (fun w'=>w'.cell? ⟨a.heap.size,0,none⟩=some (iV (b:Int))∧w'.cell? ⟨a.heap.size,1,none⟩=some (iV (c:Int))∧w'.cell? ⟨a.heap.size,2,none⟩=some (iV (f:Int))∧w'.cell? ⟨a.heap.size,3,none⟩=some (.int .u32 ((g:Int)+1))) (go_keep) (first|(go_at_call 198;(with_reducible refine(yu d (g+1) I _ _ a0.out (by omega) Z a6.out).mono ?_);rintro e n ⟨rfl,hx⟩;subst n)|(go_at_call 245;(with_reducible refine(ace (g+1) b c f _ _ a0.out Z L1.out L2.out L3.out).mono ?_);rintro e w2 ⟨rfl,k⟩;have a4:=hid (a8.drew.later k);have K2:=hid (KY.out.drew.trans (Kept.of_below k));have R2:=hid ((k.block _ x).trans J.out);have z0:=(k.cell (p:=⟨a.heap.size,0,none⟩) x).trans y0;have z1:=(k.cell (p:=⟨a.heap.size,1,none⟩) x).trans y1;have z2:=(k.cell (p:=⟨a.heap.size,2,none⟩) x).trans y2;have z3:=(k.cell (p:=⟨a.heap.size,3,none⟩) x).trans y3;clear k)|(go_at_call 244;(with_reducible refine(ag1 A w0 _ j p q E B l false o (g+1) I ⟨b,c,f⟩ a4.out HE.out a7.out HR.out HC.out).mono ?_);rintro e z ⟨rfl,i,r⟩;have C:=hid i;have K:=hid (K2.out.trans (r.mono (fun a2 L=>Or.inr L)));have m:=hid (r.row R2.out (fun L=>L.elim R.out.1 R.out.2.1));have t0:z.cell? ⟨a.heap.size,0,none⟩=some (iV (b:Int)):=(ai m.out).trans rfl;have t1:z.cell? ⟨a.heap.size,1,none⟩=some (iV (c:Int)):=(ai m.out).trans rfl;have t2:z.cell? ⟨a.heap.size,2,none⟩=some (iV (f:Int)):=(ai m.out).trans rfl;have t3:z.cell? ⟨a.heap.size,3,none⟩=some (.int .u32 ((g:Int)+1)):=(ai m.out).trans rfl;clear i r))
      all_goals go_step
      all_goals go_step
      all_goals go_meet
      all_goals exact⟨rfl,C.out,m.out,K.out⟩
     case rest =>
      obtain⟨rfl,i,r3,r⟩:=hcut;have K:=hid r;have C:=hid i;have m:=hid r3;obtain⟨c0,c1,c2,c3⟩:=i.jr.ent hd;have f0:=i.jr.fz (1+d*4);have f1:=i.jr.fz (1+d*4+1);have f2:=i.jr.fz (1+d*4+2);have f3:=i.jr.fz (1+d*4+3);have t0:wc.cell? ⟨a.heap.size,0,none⟩=some (iV (b:Int)):=by rw[ai m.out];rfl
      have t1:wc.cell? ⟨a.heap.size,1,none⟩=some (iV (c:Int)):=by rw[ai m.out];rfl
      have t2:wc.cell? ⟨a.heap.size,2,none⟩=some (iV (f:Int)):=by rw[ai m.out];rfl
      have t3:wc.cell? ⟨a.heap.size,3,none⟩=some (.int .u32 ((g:Int)+1)):=by rw[ai m.out];rfl
      have c6:=R.out.2.2;clear i r3 r
      go_wp2_with fail
      go_region
      all_goals go_wp2_with fail
      go_ret
      exact⟨by rw[t.out];rfl,by rw[t.out];exact(C.own (((((Kept.refl _ wc).set1 _ _).set1 _ _).set1 _ _).set1 _ _) (C.jr.set hd (g+1,⟨b,c,f⟩))).drew,((((K.out.setCell (.inl rfl) _).setCell (.inl rfl) _).setCell (.inl rfl) _).setCell (.inl rfl) _).drew⟩
    ·have HC:=hid M
     have t:Hid (T=⟨a3+1,E,true,(bf B l o (g+1) ⟨b,c,f⟩).b,(bf B l o (g+1) ⟨b,c,f⟩).l⟩):=by
      rw[<-N.out];unfold Hid bK;rw[P.out,aa ne,aa X];simp only[];rw[Y.out,aa (by omega),M]
     clear M
     go_upto_region 11 with fail
     go_cut [9]from 10 (fun s9 n=>s9=.iface 318 (.pointer (some (A a3)))∧JP w0 n j p q E false (bf B l o (g+1) ⟨b,c,f⟩).b (bf B l o (g+1) ⟨b,c,f⟩).l∧n.heap[a.heap.size]?=some (.cells #[iV (b:Int),iV (c:Int),iV (f:Int),.int .u32 ((g:Int)+1)] 164 (0,0))∧Kept (In3 j p q) w n)
     case first =>
      go_region_held3 (fun w'=>w'.cell? ⟨a.heap.size,0,none⟩=some (iV (b:Int))∧w'.cell? ⟨a.heap.size,1,none⟩=some (iV (c:Int))∧w'.cell? ⟨a.heap.size,2,none⟩=some (iV (f:Int))∧w'.cell? ⟨a.heap.size,3,none⟩=some (.int .u32 ((g:Int)+1))) (go_keep) (first|(go_at_call 198;(with_reducible refine(yu d (g+1) I _ _ a0.out (by omega) Z a6.out).mono ?_);rintro e n ⟨rfl,hx⟩;subst n)|(go_at_call 245;(with_reducible refine(ace (g+1) b c f _ _ a0.out Z L1.out L2.out L3.out).mono ?_);rintro e w2 ⟨rfl,k⟩;have a4:=hid (a8.drew.later k);have K2:=hid (KY.out.drew.trans (Kept.of_below k));have R2:=hid ((k.block _ x).trans J.out);have z0:=(k.cell (p:=⟨a.heap.size,0,none⟩) x).trans y0;have z1:=(k.cell (p:=⟨a.heap.size,1,none⟩) x).trans y1;have z2:=(k.cell (p:=⟨a.heap.size,2,none⟩) x).trans y2;have z3:=(k.cell (p:=⟨a.heap.size,3,none⟩) x).trans y3;clear k)|(go_at_call 244;(with_reducible refine(afG A w0 _ j p q E B l false o (g+1) I ⟨b,c,f⟩ a3 a4.out HE.out a7.out HR.out HC.out).mono ?_);rintro e z ⟨rfl,i,r⟩;have C:=hid i;have K:=hid (K2.out.trans (r.mono (fun a2 L=>Or.inr L)));have m:=hid (r.row R2.out (fun L=>L.elim R.out.1 R.out.2.1));have t0:z.cell? ⟨a.heap.size,0,none⟩=some (iV (b:Int)):=(ai m.out).trans rfl;have t1:z.cell? ⟨a.heap.size,1,none⟩=some (iV (c:Int)):=(ai m.out).trans rfl;have t2:z.cell? ⟨a.heap.size,2,none⟩=some (iV (f:Int)):=(ai m.out).trans rfl;have t3:z.cell? ⟨a.heap.size,3,none⟩=some (.int .u32 ((g:Int)+1)):=(ai m.out).trans rfl;clear i r))
      all_goals go_step
      all_goals go_step
      all_goals go_meet
      all_goals exact⟨rfl,C.out,m.out,K.out⟩
     case rest =>
      obtain⟨rfl,i,r3,r⟩:=hcut;have K:=hid r;have C:=hid i;have c7:=i.jr.over;have c8:=i.jr.fz 25;clear i r3 r
      go_wp2_with fail
      go_ret
      exact⟨by rw[t.out];rfl,by rw[t.out];exact C.own ((Kept.refl _ wc).set1 _ _) (C.jr.setOver true),K.out.setCell (.inl rfl) _⟩
end
theorem xL{s:St}(h:fQ s.ph s.pr s.at_=true):s.fits:=by
 have:=cK h;refine⟨by omega,by omega,by omega⟩
section
variable {B:ByteArray} {l:Int} {d:Nat} {s:St}
theorem tY(a:d<6)(m:Nat):dt d m<12:=by unfold dt;omega
theorem aaY(E:Nat->Nat×St):(bK E B l d s).b.size=B.size:=by
 unfold bK
 repeat' split
 ·rfl
 ·rfl
 ·exact qI
 ·exact qI
theorem xk(p:216<=B.size)(k:d<6)(m:s.fits)(q:(au B.data.toList d).1+1<4294967295)(n:l≠-2):((bK (au B.data.toList) B l d s).c=0∧(bK (au B.data.toList) B l d s).over=false∧(bK (au B.data.toList) B l d s).e=au (bK (au B.data.toList) B l d s).b.data.toList∧(bK (au B.data.toList) B l d s).l≠-2∧(au (bK (au B.data.toList) B l d s).b.data.toList d).2=s∧(∀e,e≠d->au (bK (au B.data.toList) B l d s).b.data.toList e=au B.data.toList e)∧(au (bK (au B.data.toList) B l d s).b.data.toList d).1<=(au B.data.toList d).1+1)∨((bK (au B.data.toList) B l d s).c=6∧(bK (au B.data.toList) B l d s).over=true∧(bK (au B.data.toList) B l d s).l=-2∧au (bK (au B.data.toList) B l d s).b.data.toList=au B.data.toList):=by
 have r:=tY k (au B.data.toList d).1;have o:=acS (B:=B) (l:=l) (k:=dt d (au B.data.toList d).1) (n:=(au B.data.toList d).1+1) (s:=s) (by omega);unfold bK
 by_cases b:(au B.data.toList d).2=s
 ·rw[af b]
  exact .inl ⟨rfl,rfl,rfl,n,b,fun _ _=>rfl,by show(au B.data.toList d).1<=_;omega⟩
 ·rw[aa b,aa (by omega)]
  rcases o with⟨c,h,f⟩|⟨c,i,f⟩
  ·rw[af c]
   have g:=acz (by omega) m h;have j:∀e,e≠d->au (bf B l (dt d (au B.data.toList d).1) ((au B.data.toList d).1+1) s).b.data.toList e=au B.data.toList e:=fun e a=>qu h.1 a
   refine .inl ⟨rfl,rfl,?_,f,?_,j,?_⟩
   ·funext e
    show iM _ d _ e=_;unfold iM
    by_cases a:e=d
    ·subst a;rw[af rfl];exact g.symm
    ·rw[aa a];exact(j e a).symm
   ·show(au _ d).2=s;rw[g]
   ·show(au _ d).1<=_;rw[g];exact aj
  ·rw[aa (by omega)]
   refine .inr ⟨c,rfl,f,?_⟩
   funext e
   by_cases a:e=d
   ·subst a;exact abD (by rw[<-bj];omega) i
   ·exact qu i.1 a
theorem adx(e:216<=B.size)(c:d<6)(f:(au B.data.toList d).1+1<4294967295):(bK (au B.data.toList) B (-1) d s).c=0∧(bK (au B.data.toList) B (-1) d s).l=-1:=by
 have g:=tY c (au B.data.toList d).1;have a:=aah (B:=B) (k:=dt d (au B.data.toList d).1) (n:=(au B.data.toList d).1+1) (s:=s) (by omega);unfold bK
 by_cases b:(au B.data.toList d).2=s
 ·rw[af b];exact⟨rfl,rfl⟩
 ·rw[aa b,aa (by omega),af a.1];exact⟨rfl,a.2⟩
end
theorem acR(n k:Nat)(h:18*(k+1)<=n):(aN (bQ n).data.toList k)[17]?=some 0:=by
 have a:(bQ n).data.toList=List.replicate n 0:=by simp[bQ]
 rw[fT,af (by decide),a,List.getElem?_replicate,af (by omega)]
theorem iA(n d:Nat)(h:36*(d+1)<=n):au (bQ n).data.toList d=(0,St.zero):=by
 have b:∀a,18*(a+1)<=n->cy a (aN (bQ n).data.toList a)=(0,St.zero):=fun a c=>qC a _ 0 (qL (eR (by rw[<-bj,dk];exact c)) (acR n a c)) (by decide)
 unfold au;rw[b _ (by omega),b _ (by omega),aa (Nat.lt_irrefl _)]
section
variable {w0 w w1 w2:World} {j p q:Nat} {E:Nat→Nat×St} {over:Bool} {B:ByteArray} {l:Int} {A:Nat→Addr}
theorem ahX(a:Below w0.heap.size w0 w1)(h:Pl w1 p q B l)(d:w0.heap.size<=p)(e:w0.heap.size<=q)(f:JR w2 j p E over)(c:Below w1.heap.size w1 w2)(g:w1.heap.size<=j)(h0:-2<=l)(h1:l<=9223372036854775807)(i:B.size<=1000)(k:216<=B.size):JP w0 w2 j p q E over B l:=by
 have m:=iP h.head;have n:=iP h.row;exact⟨a.trans (c.mono a.size),f,h.kept (S:=fun _=>False) (Kept.of_below c) (fun b=>b) (fun b=>b),by omega,by omega,bc a.size g,d,e,h0,h1,i,k⟩
end
def sts(B:ByteArray):Nat->St:=fun d=>(au B.data.toList d).2
theorem nD(j p d:Nat)(E:Nat->Nat×St)(over:Bool)(h1 a b:Nat)(w:World)(h:JR w j p E over)(c:d<6)(f:(E d).2=⟨h1,a,b⟩):Calls prog 160 #[.pointer (some ⟨j,0,none⟩),.int .i64 (d:Int)] w fun e w'=>e=.returned (.tuple #[.agg #[.int .i64 (h1:Int),.int .i64 (a:Int),.int .i64 (b:Int)],.nilIface])∧Below w.heap.size w w':=by
 have:=aiB j p d E over w h c;rw[f]at this;exact this
def ig(E:Nat->Nat×St)(over:Bool)(B:ByteArray)(l:Int)(dl ph pr a:Int):POut:=
 if over=true then⟨6,E,true,B,l⟩else if(0<=dl∧dl<6)∧fQ ph pr a=true then bK E B l dl.toNat ⟨ph.toNat,pr.toNat,a.toNat⟩else⟨2,E,false,B,l⟩
section
variable {w0 w w':World} {j p q m gn gs r:Nat} {E:Nat→Nat×St} {over dead:Bool} {B:ByteArray} {l:Int} {A:Nat→Addr}
theorem ab4{b ph pr a:Int}(h:(0<=b∧b<6)∧fQ ph pr a=true):∃d h1 c e:Nat,b=d∧ph=h1∧pr=c∧a=e:=by
 obtain⟨f,g,i,k,n,o⟩:=cK h.2;exact⟨b.toNat,ph.toNat,pr.toNat,a.toNat,by omega,by omega,by omega,by omega⟩
theorem adV(b ph pr a:Int)(o:POut)(g:ig E over B l b ph pr a=o)(h:JP w0 w j p q E over B l)(f:HeldE w0 A)(i:∀d,d<6->(E d).1<4294967296):Calls prog 216 #[.pointer (some ⟨j,0,none⟩),.int .i64 b,.agg #[.int .i64 ph,.int .i64 pr,.int .i64 a]] w fun e w'=>e=.returned (ev A o.c)∧JP w0 w' j p q o.e o.over o.b o.l∧Kept (In3 j p q) w w':=by
 subst g;unfold ig
 cases over with
 | true=>rw[af rfl];exact adK A w0 w j p q E B l b ph pr a h f
 | false =>
  rw[aa (by decide)]
  by_cases c:(0<=b∧b<6)∧fQ ph pr a=true
  ·rw[af c]
   obtain⟨d,k,n,s,rfl,rfl,rfl,rfl⟩:=ab4 c;simp only[aU];exact ah4 A w0 w j p q E B l d ⟨k,n,s⟩ h f (by omega) c.2 (i d (by omega))
  ·rw[aa c];exact abI A w0 w j p q E B l b ph pr a h f c
theorem JP.far{S:Nat->Prop}(h:JP w0 w j p q E over B l)(k:Kept S w w')(b:∀x,S x->w0.heap.size<=x)(a:∀x,In3 j p q x->¬S x):JP w0 w' j p q E over B l:=
 ⟨k.below h.bel.size b h.bel,k.row h.jr (a j (.inl rfl)),h.pl.kept k (a p (.inr (.inl rfl))) (a q (.inr (.inr rfl))),h.jp,h.jq,h.j0,h.p0,h.q0,h.l0,h.l1,h.sz,h.s6⟩
end
end Go.Proofs.YtaehdgemkafinaaGreatDoor
namespace Go.Proofs.YtaehdgemkafinaaGreatDoor
open Go.Proofs.Tryz
theorem jW{s:St}(h:s.good):fQ s.ph s.pr s.at_=true:=by
 obtain⟨a,b,c⟩:=h;exact bo (by omega)
structure Well (B:ByteArray) (over:Bool) (l:Int) (m:Nat):Prop where
 good:∀d,d<6->(au B.data.toList d).2.good
 num:∀d,d<6->(au B.data.toList d).1<=m
 pow:over=false->l≠-2
theorem Well.mono{B:ByteArray}{over:Bool}{l:Int}{m k:Nat}(h:Well B over l m)(a:m<=k):Well B over l k:=⟨h.good,fun b c=>bc (h.num b c) a,h.pow⟩
theorem abA(n:Nat)(h:216<=n):Well (bQ n) false (-1) 0:=
 ⟨fun a b=>by rw[iA n a (by omega)];exact⟨by decide,by decide,by decide⟩,fun a b=>by rw[iA n a (by omega)];exact aj,fun _=>by omega⟩
end Go.Proofs.YtaehdgemkafinaaGreatDoor
namespace Go.Proofs.YtaehdgemkafinaaGreatDoor
open Go.RowKit
open Go.Proofs.Tryz
theorem adG:Maps.Keyed prog 3:=Maps.int_keyed underlying3
theorem afu(w:World):(zeroValue 174).run prog w=.ok (.agg #[]) w:=by kernel_rfl
theorem ajA{a:Int}(h:-9223372036854775808<=a∧a<=9223372036854775807):keyOf prog 3 (.int .i64 a)=some (.int .i64 a):=by
 refine Maps.keyOf_int_mk underlying3 ?_;have b:IntKind.i64.min=-9223372036854775808:=by decide
 have c:IntKind.i64.max=9223372036854775807:=by decide
 simp only[Lit.wf,Bool.and_eq_true,decide_eq_true_eq,b,c];exact h
theorem afy{d:Nat}(h:d<6):keyOf prog 3 (.int .i64 (d:Int))=some (.int .i64 (d:Int)):=ajA (by omega)
structure SR (w:World) (s j mb:Nat) (id:Int) (R:Nat->Bool) (n:Nat):Prop where
 row:w.heap[s]?=some (.cells #[.pointer (some ⟨j,0,none⟩),.int .i64 id,.map (some mb)] 160 (0,0))
 ref:∃D:DataW Unit,w.ownsMap prog 3 unitElem mb n D∧∀d:Nat,d<6->Maps.has D (.int .i64 (d:Int))=R d
theorem fB{S:Nat->Prop}{w w':World}{P:Program}{k:TypeId}{H:Type}{R:Value->Option (DataW H×List MemPlace)}{b n:Nat}{a:DataW H}(h:w.ownsMap P k R b n a)(c:Kept S w w')(d:¬S b):w'.ownsMap P k R b n a:=by
 obtain⟨e,f,g,i⟩:=h;exact⟨e,f,c.row g d,i⟩
section
variable {w w':World} {s j mb n:Nat} {id:Int} {R:Nat→Bool}
theorem SR.kept{S:Nat->Prop}(h:SR w s j mb id R n)(k:Kept S w w')(h1:¬S s)(a:¬S mb):SR w' s j mb id R n:=by
 obtain⟨b,c,d,e⟩:=h;exact⟨k.row b h1,c,fB d k a,e⟩
theorem SR.later(h:SR w s j mb id R n)(b:Below w.heap.size w w'):SR w' s j mb id R n:=h.kept (S:=fun _=>False) (Kept.of_below b) (fun a=>a) (fun a=>a)
theorem SR.mono{m:Nat}(h:SR w s j mb id R n)(a:n<=m):SR w s j mb id R m:=by
 obtain⟨b,c,d,e⟩:=h;exact⟨b,c,d.mono a,e⟩
theorem SR.cells(h:SR w s j mb id R n):w.cell? ⟨s,0,none⟩=some (.pointer (some ⟨j,0,none⟩))∧w.cell? ⟨s,1,none⟩=some (.int .i64 id)∧w.cell? ⟨s,2,none⟩=some (.map (some mb)):=by
 refine⟨?_,?_,?_⟩<;>rw[ai h.row]<;>rfl
theorem SR.lts(h:SR w s j mb id R n):s<w.heap.size∧mb<w.heap.size:=by
 obtain⟨a,c,b,_⟩:=h;exact⟨ah a,b.lt⟩
end
def my(R:Nat->Bool)(d:Nat):Nat->Bool:=fun e=>if e=d then true else R e
structure SP (w0 w:World) (s j mb p q:Nat) (id:Int) (R:Nat->Bool) (n:Nat) (E:Nat->Nat×St) (over:Bool) (B:ByteArray) (l:Int):Prop where
 jp:JP w0 w j p q E over B l
 sr:SR w s j mb id R n
 ns:¬In3 j p q s
 nm:¬In3 j p q mb
 sm:s≠mb
 s0:w0.heap.size<=s
 m0:w0.heap.size<=mb
section
variable {w0 w w':World} {s j mb p q n:Nat} {id:Int} {R:Nat→Bool} {E E':Nat→Nat×St} {over over':Bool} {B B':ByteArray} {l l':Int}
theorem SP.later(h:SP w0 w s j mb p q id R n E over B l)(a:Below w.heap.size w w'):SP w0 w' s j mb p q id R n E over B l:=⟨h.jp.later a,h.sr.later a,h.ns,h.nm,h.sm,h.s0,h.m0⟩
theorem SP.drew(h:SP w0 w s j mb p q id R n E over B l):SP w0 w.drew s j mb p q id R n E over B l:=h.later aF.drew
theorem SP.mono{m:Nat}(h:SP w0 w s j mb p q id R n E over B l)(a:n<=m):SP w0 w s j mb p q id R m E over B l:=⟨h.jp,h.sr.mono a,h.ns,h.nm,h.sm,h.s0,h.m0⟩
theorem SP.turn(h:SP w0 w s j mb p q id R n E over B l)(a:JP w0 w' j p q E' over' B' l')(b:Kept (In3 j p q) w w'):SP w0 w' s j mb p q id R n E' over' B' l':=⟨a,h.sr.kept b h.ns h.nm,h.ns,h.nm,h.sm,h.s0,h.m0⟩
theorem SP.far{S:Nat->Prop}(h:SP w0 w s j mb p q id R n E over B l)(k:Kept S w w')(a:∀x,S x->w0.heap.size<=x)(b:∀x,In3 j p q x->¬S x)(h1:¬S s)(c:¬S mb):SP w0 w' s j mb p q id R n E over B l:=⟨h.jp.far k a b,h.sr.kept k h1 c,h.ns,h.nm,h.sm,h.s0,h.m0⟩
theorem SP.lts(h:SP w0 w s j mb p q id R n E over B l):s<w.heap.size∧mb<w.heap.size∧j<w.heap.size∧p<w.heap.size∧q<w.heap.size:=⟨h.sr.lts.1,h.sr.lts.2,h.jp.jr.lt,iP h.jp.pl.head,iP h.jp.pl.row⟩
end
theorem hH(p:Nat)(b:Bool)(w:World)(h:aT p=b):Calls prog 256 #[.int .i64 (p:Int)] w fun e w'=>e=.returned (.bool b)∧w'=w:=by
 subst h;unfold aT
 by_cases a:p=2
 ·subst a
  go_enter func256,ntmps256
  go_wp2_with fail
  go_ret
  exact⟨rfl,rfl⟩
 ·by_cases c:p=3
  ·subst c
   go_enter func256,ntmps256
   go_wp2_with fail
   go_ret
   exact⟨rfl,rfl⟩
  ·rw[aS (by omega)]
   have d:¬(p:Int)=2:=by omega
   have f:¬(p:Int)=3:=by omega
   go_enter func256,ntmps256
   go_wp2_with fail
   go_ret
   exact⟨by simp;omega,rfl⟩
abbrev agS(h p a:Nat):Value:=.agg #[.int .i64 (h:Int),.int .i64 (p:Int),.int .i64 (a:Int)]
structure In2r (w W:World) (x y z:Int):Prop where
 a:W.heap[w.heap.size]?=some (.cells #[.int .i64 x,.int .i64 y,.int .i64 z] 80 (0,0))
 r:W.heap[w.heap.size+1]?=some (.cells #[.int .i64 0,.int .i64 0,.int .i64 0] 80 (0,0))
 b:Below w.heap.size w W
theorem oh(w:World)(x y a:Int):In2r w ((w.alloc (.cells #[.int .i64 x,.int .i64 y,.int .i64 a] 80)).alloc (.cells #[.int .i64 0,.int .i64 0,.int .i64 0] 80)) x y a:=by
 have b:(w.alloc (.cells #[.int .i64 x,.int .i64 y,.int .i64 a] 80)).heap.size=w.heap.size+1:=by simp
 refine⟨?_,?_,(aD).alloc (by omega) _⟩
 ·rw[Below.heap_alloc _ _ _ (by omega)];exact aB w _
 ·rw[<-b];exact aB _ _
section
variable {w W:World} {x y z:Int}
theorem In2r.cells(h:In2r w W x y z):W.cell? ⟨w.heap.size,0,none⟩=some (.int .i64 x)∧W.cell? ⟨w.heap.size,1,none⟩=some (.int .i64 y)∧W.cell? ⟨w.heap.size,2,none⟩=some (.int .i64 z):=by
 refine⟨?_,?_,?_⟩<;>rw[ai h.a]<;>rfl
theorem In2r.rcells(h:In2r w W x y z):W.cell? ⟨w.heap.size+1,0,none⟩=some (.int .i64 0)∧W.cell? ⟨w.heap.size+1,1,none⟩=some (.int .i64 0)∧W.cell? ⟨w.heap.size+1,2,none⟩=some (.int .i64 0):=by
 refine⟨?_,?_,?_⟩<;>rw[ai h.r]<;>rfl
theorem In2r.fz(h:In2r w W x y z):W.frozen? ⟨w.heap.size,0,none⟩=false∧W.frozen? ⟨w.heap.size,1,none⟩=false∧W.frozen? ⟨w.heap.size+1,0,none⟩=false∧W.frozen? ⟨w.heap.size+1,1,none⟩=false∧W.frozen? ⟨w.heap.size+1,2,none⟩=false:=
 ⟨aK _ _ 0 _ _ h.a,aK _ _ 1 _ _ h.a,aK _ _ 0 _ _ h.r,aK _ _ 1 _ _ h.r,aK _ _ 2 _ _ h.r⟩
theorem In2r.set(h:In2r w W x y z)(i:Nat)(v:Value):(W.setCell ⟨w.heap.size,i,none⟩ v).heap[w.heap.size+1]?=some (.cells #[.int .i64 0,.int .i64 0,.int .i64 0] 80 (0,0)):=(dS _ _ _ _ (by simp)).trans h.r
theorem In2r.out(h:In2r w W x y z)(a b c:Value):Below w.heap.size w (((W.setCell ⟨w.heap.size+1,0,none⟩ a).setCell ⟨w.heap.size+1,1,none⟩ b).setCell ⟨w.heap.size+1,2,none⟩ c):=((h.b.setCell (aP _) _).setCell (aP _) _).setCell (aP _) _
theorem In2r.out1(h:In2r w W x y z)(i:Nat)(v a b c:Value):Below w.heap.size w ((((W.setCell ⟨w.heap.size,i,none⟩ v).setCell ⟨w.heap.size+1,0,none⟩ a).setCell ⟨w.heap.size+1,1,none⟩ b).setCell ⟨w.heap.size+1,2,none⟩ c):=(((h.b.setCell aj _).setCell (aP _) _).setCell (aP _) _).setCell (aP _) _
end
theorem aaH(d b f a:Nat)(w:World)(h:¬b<a):Calls prog 240 #[agS d b f,.int .i64 (a:Int)] w fun e w'=>e=.returned (.tuple #[agS d b f,.bool false])∧Below w.heap.size w w':=by
 obtain⟨g,i⟩:=nmd (((w.alloc (.cells #[iV (d:Int),iV (b:Int),iV (f:Int)] 80)).alloc (.cells #[iV 0,iV 0,iV 0] 80)));have c:Hid (In2r w g d b f):=by rw[<-i.out];exact oh w _ _ _
 obtain⟨j,k,l⟩:=c.cells;obtain⟨m,n,o⟩:=c.rcells;obtain⟨p,q,r,s,t⟩:=c.fz;have u:=i.out;have v:(a:Int)<=(b:Int):=by omega
 go_enter func240,ntmps240
 go_wp2_with fail
 refine bh (cH rfl _ _ (w.heap.size+1) 80 _ (0,0) _ rfl (ez c.r _ _ _) underlying80 rfl bk) rfl ?_;exact⟨rfl,c.out.out _ _ _⟩
theorem wh(d b f a:Nat)(w:World)(h:b<a):Calls prog 240 #[agS d b f,.int .i64 (a:Int)] w fun e w'=>e=.returned (.tuple #[agS d a f,.bool true])∧Below w.heap.size w w':=by
 obtain⟨g,i⟩:=nmd (((w.alloc (.cells #[iV (d:Int),iV (b:Int),iV (f:Int)] 80)).alloc (.cells #[iV 0,iV 0,iV 0] 80)));have c:Hid (In2r w g d b f):=by rw[<-i.out];exact oh w _ _ _
 obtain⟨j,k,l⟩:=c.cells;obtain⟨m,n,o⟩:=c.rcells;obtain⟨p,q,r,s,t⟩:=c.fz;have u:=i.out;have v:¬(a:Int)<=(b:Int):=by omega
 go_enter func240,ntmps240
 go_wp2_with fail
 refine bh (cH rfl _ _ (w.heap.size+1) 80 _ (0,0) _ rfl (ez (c.set 1 _) _ _ _) underlying80 rfl bk) rfl ?_;exact⟨rfl,c.out1 _ _ _ _ _⟩
theorem zi(c b g ph a:Nat)(f:Bool)(w:World)(k:aT c=f)(h:¬(b<=a∧f=false)):Calls prog 241 #[agS c b g,.int .i64 (ph:Int),.int .i64 (a:Int)] w fun e w'=>e=.returned (.tuple #[agS c b g,.bool false])∧Below w.heap.size w w':=by
 obtain⟨i,l⟩:=nmd (((w.alloc (.cells #[iV (c:Int),iV (b:Int),iV (g:Int)] 80)).alloc (.cells #[iV 0,iV 0,iV 0] 80)));have d:Hid (In2r w i c b g):=by rw[<-l.out];exact oh w _ _ _
 obtain⟨q,r,s⟩:=d.cells;obtain⟨t,u,v⟩:=d.rcells;obtain⟨x,y,z,A,B⟩:=d.fz;have C:=l.out;have m:=hid k;clear k
 by_cases n:b<=a
 ·obtain rfl:f=true:=by cases f with|true=>rfl|false=>exact absurd ⟨n,rfl⟩ h
  clear h;have o:¬(a:Int)<(b:Int):=by omega
  go_enter func241,ntmps241
  go_wp2_with (go_at_call 256;(with_reducible refine(hH c true _ m.out).mono ?_);rintro e j ⟨rfl,p⟩;subst j)
  refine bh (cH rfl _ _ (w.heap.size+1) 80 _ (0,0) _ rfl (ez d.r _ _ _) underlying80 rfl bk) rfl ?_;exact⟨rfl,d.out.out _ _ _⟩
 ·clear h
  have o:(a:Int)<(b:Int):=by omega
  go_enter func241,ntmps241
  go_wp2_with (go_at_call 256;(with_reducible refine(hH c f _ m.out).mono ?_);rintro e j ⟨rfl,p⟩;subst j)
  refine bh (cH rfl _ _ (w.heap.size+1) 80 _ (0,0) _ rfl (ez d.r _ _ _) underlying80 rfl bk) rfl ?_;exact⟨rfl,d.out.out _ _ _⟩
theorem wT(b c f ph a:Nat)(w:World)(i:aT b=false)(h:c<=a):Calls prog 241 #[agS b c f,.int .i64 (ph:Int),.int .i64 (a:Int)] w fun e w'=>e=.returned (.tuple #[agS ph a a,.bool true])∧Below w.heap.size w w':=by
 obtain⟨g,j⟩:=nmd (((w.alloc (.cells #[iV (b:Int),iV (c:Int),iV (f:Int)] 80)).alloc (.cells #[iV 0,iV 0,iV 0] 80)));have d:Hid (In2r w g b c f):=by rw[<-j.out];exact oh w _ _ _
 obtain⟨m,n,o⟩:=d.cells;obtain⟨p,q,r⟩:=d.rcells;obtain⟨s,t,u,v,x⟩:=d.fz;have y:=j.out;have k:=hid i;clear i;have z:¬(a:Int)<(c:Int):=by omega
 go_enter func241,ntmps241
 go_wp2_with (go_at_call 256;(with_reducible refine(hH b false _ k.out).mono ?_);rintro e l ⟨rfl,A⟩;subst l)
 refine bh (cH rfl _ _ (w.heap.size+1) 80 _ (0,0) _ rfl (ez d.r _ _ _) underlying80 rfl bk) rfl ?_;exact⟨rfl,d.out.out _ _ _⟩
theorem adc(b d f ph:Nat)(g i:Bool)(w:World)(k:aT b=g)(l:aT ph=i)(h:¬(i=true∧g=false)):Calls prog 242 #[agS b d f,.int .i64 (ph:Int)] w fun e w'=>e=.returned (agS b d f)∧Below w.heap.size w w':=by
 obtain⟨j,m⟩:=nmd (((w.alloc (.cells #[iV (b:Int),iV (d:Int),iV (f:Int)] 80)).alloc (.cells #[iV 0,iV 0,iV 0] 80)));have a:Hid (In2r w j b d f):=by rw[<-m.out];exact oh w _ _ _
 obtain⟨q,r,s⟩:=a.cells;obtain⟨t,u,v⟩:=a.rcells;obtain⟨x,y,z,A,B⟩:=a.fz;have C:=m.out;have p:=hid k;have n:=hid l;clear k l
 cases i with
 | false =>
  clear h
  go_enter func242,ntmps242
  go_wp2_with (go_at_call 256;(with_reducible refine(hH ph false _ n.out).mono ?_);rintro e c ⟨rfl,o⟩;subst c)
  refine bh (results_cell_row rfl _ _ (w.heap.size+1) 80 _ (0,0) _ rfl (ez a.r _ _ _) underlying80 rfl bk) rfl ?_;exact⟨rfl,a.out.out _ _ _⟩
 | true =>
  obtain rfl:g=true:=by cases g with|true=>rfl|false=>exact absurd ⟨rfl,rfl⟩ h
  clear h
  go_enter func242,ntmps242
  go_wp2_with (go_at_call 256;first|((with_reducible refine(hH ph true _ n.out).mono ?_);rintro e c ⟨rfl,o⟩;subst c)|((with_reducible refine(hH b true _ p.out).mono ?_);rintro e c ⟨rfl,o⟩;subst c))
  refine bh (results_cell_row rfl _ _ (w.heap.size+1) 80 _ (0,0) _ rfl (ez a.r _ _ _) underlying80 rfl bk) rfl ?_;exact⟨rfl,a.out.out _ _ _⟩
theorem zA(a c d ph:Nat)(w:World)(h:aT a=false)(i:aT ph=true):Calls prog 242 #[agS a c d,.int .i64 (ph:Int)] w fun e w'=>e=.returned (agS ph c d)∧Below w.heap.size w w':=by
 obtain⟨f,j⟩:=nmd (((w.alloc (.cells #[iV (a:Int),iV (c:Int),iV (d:Int)] 80)).alloc (.cells #[iV 0,iV 0,iV 0] 80)));have b:Hid (In2r w f a c d):=by rw[<-j.out];exact oh w _ _ _
 obtain⟨n,o,p⟩:=b.cells;obtain⟨q,r,s⟩:=b.rcells;obtain⟨t,u,v,x,y⟩:=b.fz;have z:=j.out;have k:=hid h;have l:=hid i;clear h i
 go_enter func242,ntmps242
 go_wp2_with (go_at_call 256;first|((with_reducible refine(hH ph true _ l.out).mono ?_);rintro e g ⟨rfl,m⟩;subst g)|((with_reducible refine(hH a false _ k.out).mono ?_);rintro e g ⟨rfl,m⟩;subst g))
 refine bh (results_cell_row rfl _ _ (w.heap.size+1) 80 _ (0,0) _ rfl (ez (b.set 0 _) _ _ _) underlying80 rfl bk) rfl ?_;exact⟨rfl,b.out1 _ _ _ _ _⟩
theorem Tryz.infoBo:(prog.info? 4).map (fun i=>(i.zero,i.size,i.bytes))=some (some (.bool false),1,1):=by kernel_rfl
theorem agF:madeCells (Value.bool false).cells 6=#[.bool false,.bool false,.bool false,.bool false,.bool false,.bool false]:=by first|rfl|kernel_rfl
theorem adw(w:World):(Instr.makeSlice 67 (.int .i64 6) (.int .i64 6)).run prog w=.ok (.slice (some ⟨w.heap.size,0,none⟩) 6 6) (w.alloc (.cells #[.bool false,.bool false,.bool false,.bool false,.bool false,.bool false] 4)):=by
 obtain⟨b,c,d,e,f⟩:=info_parts Tryz.infoBo;have a:=run_make (P:=prog) w 67 4 b _ underlying67 c d .i64 .i64 6 6 (by omega) (Int.le_refl _) (by rw[f];decide) (by decide);rw[e,show Int.toNat 6*1=6 from rfl,agF]at a;exact a
def VR(w:World)(b:Nat)(V:Nat->Bool):Prop:=w.heap[b]?=some (.cells #[.bool (V 0),.bool (V 1),.bool (V 2),.bool (V 3),.bool (V 4),.bool (V 5)] 4 (0,0))
def zk(V:Nat->Bool)(d:Nat)(x:Bool):Nat->Bool:=fun e=>if e=d then x else V e
section
variable {w w':World} {b d:Nat} {V:Nat→Bool}
theorem VR.at_(h:VR w b V)(a:d<6):w.cell? ⟨b,d,none⟩=some (.bool (V d)):=by
 rw[ai h];rcases six a with rfl|rfl|rfl|rfl|rfl|rfl<;>rfl
theorem VR.fz(h:VR w b V)(i:Nat):w.frozen? ⟨b,i,none⟩=false:=aK w b i _ _ h
theorem VR.set(h:VR w b V)(a:d<6)(x:Bool):VR (w.setCell ⟨b,d,none⟩ (.bool x)) b (zk V d x):=by
 unfold VR;rw[aE w b d _ _ (.bool x) h];rcases six a with rfl|rfl|rfl|rfl|rfl|rfl<;>rfl
end
end Go.Proofs.YtaehdgemkafinaaGreatDoor
