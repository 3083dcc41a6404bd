/-
  On the way to SPlaysProof: Q4 Q5 Q6 Q7.
-/
import Derived.Test.YtaehdgemkafinaaGreatDoorBx9
set_option maxHeartbeats 8000000
set_option maxRecDepth 100000
namespace Go.Proofs.YtaehdgemkafinaaGreatDoor
open Go.RowKit
open Go.Proofs.Tryz
theorem aet{s:Int}(k:Nat)(h0:0<=s)(h1:s<9223372036854775808):(bits BinOp.and IntKind.i64 (s / 2^k) 1==0)=!bit s k:=by
 obtain⟨a,rfl⟩:=bD h0;have b:((a:Int) / 2^k)=((a / 2^k:Nat):Int):=by simp
 have c:a / 2^k<9223372036854775808:=Nat.lt_of_le_of_lt (Nat.div_le_self _ _) (by omega);rw[b,show(1:Int)=((1:Nat):Int)from rfl,gZ _ 1 c (by decide),Nat.and_one_is_mod];unfold bit;rw[aU,Nat.testBit_eq_decide_div_mod_eq,Bool.eq_iff_iff];simp;omega
section
variable {w:World} {lb b cap id:Nat} {deal att:Int} {zs:List Int} {P:PL}
theorem kb(k:Int)(x:Bool)(a:P.stt<4)(h:LD w lb b cap id deal att zs P)(c:fS P att k=x):Calls prog 217 #[.pointer (some ⟨lb,0,none⟩),.int .i64 k] w fun e w'=>e=.returned (.bool x)∧w'=w:=by
 subst c;exact wU k a h
theorem vQ{n:Nat}{f:F9}(h:¬(f.t=id∧f.d=deal∧f.a=att)):ek n id deal att P f=false:=by
 unfold ek;rw[aS h];rfl
theorem afX{n:Nat}{f:F9}(h:fS P att f.k=false):ek n id deal att P f=false:=by
 unfold ek;rw[h];simp
theorem xQ{n:Nat}{f:F9}(h:¬(0<=f.f∧f.f<n)):ek n id deal att P f=false:=by
 unfold ek;rw[aS h];simp
theorem afr{n:Nat}{f:F9}(h:f.t=id∧f.d=deal∧f.a=att)(a:fS P att f.k=true)(c:0<=f.f∧f.f<n):ek n id deal att P f=!bit P.ans f.f.toNat:=by
 unfold ek;rw[bo h,a,bo c];rfl
theorem xg(f t d k a:Int)(y:Bool)(o p q:Int)(C:zs.length<=7)(A:P.stt<4)(h:LD w lb b cap id deal att zs P):Calls prog 191 #[.pointer (some ⟨lb,0,none⟩),frV f t d k a y o p q] w fun e w'=>e=.returned (.bool (ek zs.length id deal att P ⟨f,t,d,k,a,y,o,p,q⟩))∧Below w.heap.size w w':=by
 obtain⟨s,x⟩:=nmd (w.alloc (.cells #[iV f,iV t,iV d,iV k,iV a,.bool y,iV o,iV p,iV q] 125));have l:Hid (bW w s):=by rw[<-x.out];exact aD
 have D:Hid (s.heap[w.heap.size]?=some (.cells #[iV f,iV t,iV d,iV k,iV a,.bool y,iV o,iV p,iV q] 125 (0,0))):=by rw[<-x.out];exact aB w _
 have g:=hid (h.later l);obtain⟨I,J,K,L,M,N,O,Q,R⟩:=bH D;obtain⟨S,T,U,V,W,X,Y,Z,a0⟩:=g.cells;have hW:=x.out;have B:=hid h.pw;have u:=hid A;clear h A;obtain⟨i,m⟩:=nmd (ek zs.length id deal att P ⟨f,t,d,k,a,y,o,p,q⟩);rw[m.out]
 by_cases r:t=(id:Int)
 ·by_cases v:d=deal
  ·by_cases z:a=att
   ·subst r;subst v;subst z
    obtain⟨j,n⟩:=nmd (fS P a k)
    cases j with
    | false =>
     obtain rfl:i=false:=m.symm.trans (afX n)
     go_enter func191,ntmps191
     go_wp2_with fail
     go_quiet ((go_at_call 217;exact Calls.quiet_of_same (kb k false u (by first|exact g|exact g.later (aJ aF _)) n)))
     go_wp2
     go_ret
     exact⟨rfl,aJ l _⟩
    | true =>
     by_cases g4:f<0
     ·obtain rfl:i=false:=m.symm.trans (xQ (by show ¬(0<=f∧f<(zs.length:Int));omega))
      have a1:decide (0<=f)=false:=aS (by omega)
      go_enter func191,ntmps191
      go_wp2_with fail
      go_quiet ((go_at_call 217;exact Calls.quiet_of_same (kb k true u (by first|exact g|exact g.later (aJ aF _)) n)))
      go_wp2
      go_quiet (fail)
      go_wp2
      go_ret
      exact⟨rfl,aJ (aJ l _) _⟩
     ·obtain⟨c,rfl⟩:=bD (show 0<=f by omega)
      by_cases E:(c:Int)<(zs.length:Int)
      ·obtain rfl:i=!bit P.ans c:=m.symm.trans (afr ⟨rfl,rfl,rfl⟩ n ⟨by show 0<=(c:Int);omega,E⟩)
       have hp:=(dZ C).1;have F:=B.lo;have h2:=B.hi;have G:Hid ((bits BinOp.and IntKind.i64 (P.ans / 2^c) 1==0)=!bit P.ans c):=aet c F (by omega);have a2:c<7:=by omega
       go_enter func191,ntmps191
       go_wp2_with fail
       go_quiet ((go_at_call 217;exact Calls.quiet_of_same (kb k true u (by first|exact g|exact g.later (aJ aF _)) n)))
       go_wp2
       go_quiet (fail)
       go_wp2
       go_ret
       exact⟨congrArg (fun H=>Ending.returned (.bool H)) G.out,aJ (aJ l _) _⟩
      ·obtain rfl:i=false:=m.symm.trans (xQ (by show ¬(0<=(c:Int)∧(c:Int)<(zs.length:Int));omega))
       have a3:¬c<zs.length:=by omega
       go_enter func191,ntmps191
       go_wp2_with fail
       go_quiet ((go_at_call 217;exact Calls.quiet_of_same (kb k true u (by first|exact g|exact g.later (aJ aF _)) n)))
       go_wp2
       go_quiet (fail)
       go_wp2
       go_ret
       exact⟨rfl,aJ (aJ l _) _⟩
   ·obtain rfl:i=false:=m.symm.trans (vQ (fun j=>z j.2.2))
    have e3:(a != att)=true:=bne_iff_ne.2 z;subst r;subst v
    go_enter func191,ntmps191
    go_wp2_with fail
    go_quiet (fail)
    go_wp2
    go_ret
    exact⟨rfl,aJ l _⟩
  ·obtain rfl:i=false:=m.symm.trans (vQ (fun j=>v j.2.1))
   have e2:(d != deal)=true:=bne_iff_ne.2 v;subst r
   go_enter func191,ntmps191
   go_wp2_with fail
   go_quiet (fail)
   go_wp2
   go_ret
   exact⟨rfl,aJ l _⟩
 ·obtain rfl:i=false:=m.symm.trans (vQ (fun j=>r j.1))
  have e1:(t != (id:Int))=true:=bne_iff_ne.2 r
  go_enter func191,ntmps191
  go_wp2_with fail
  go_quiet (fail)
  go_wp2
  go_ret
  exact⟨rfl,aJ l _⟩
end
section
variable {w:World} {lb b cap id:Nat} {deal att:Int} {zs:List Int} {P:PL}
theorem aas(y:Bool)(g:zs.length<=7)(h:LD w lb b cap id deal att zs P):Calls prog 192 #[.pointer (some ⟨lb,0,none⟩),.bool y] w fun e w'=>∃v,e=.returned v∧FrB w.heap.size w' v (dm id deal att zs.length (gh zs.length P y).2)∧LD w' lb b cap id deal att zs (gh zs.length P y).1∧Kept (In1 lb) w w':=by
 obtain⟨o,p,q,r,s,m,t,u,x⟩:=h.cells;have k:=hid h;have z:=(dZ g).1;have A:=(dZ g).2;obtain⟨a,i⟩:=nmd (gh zs.length P y);have B:lb<w.heap.size:=ah h.row;rw[i.out];clear h
 cases y with
 | false =>
  obtain rfl:a=ku P 3:=i.symm
  go_enter func192,ntmps192
  go_wp2_with fail
  refine(kQ 3 k g).mono ?_;rintro e n ⟨v,rfl,c,d,f⟩;have l:=hid (And.intro c (And.intro d f));clear c d f
  go_wp2_with fail
  go_ret
  exact⟨_,rfl,l⟩
 | true =>
  by_cases j:P.ans=2^zs.length-1
  ·obtain rfl:a=lG P 4:=by rw[<-i.out];unfold gh;rw[aa (by decide),af j]
   rw[j]at m
   go_enter func192,ntmps192
   go_wp2_with fail
   go_quiet (fail)
   go_wp2_with fail
   refine(mT 4 (k.later (aJ aF _)) g).mono ?_;rintro e n ⟨v,rfl,c,d,f⟩;have l:=hid (And.intro (c.mono (aJ (Below.refl w.heap.size w) nq).size) (And.intro d ((Kept.of_below (aJ aF nq)).trans f)));clear c d f
   go_wp2_with fail
   go_ret
   exact⟨_,rfl,l⟩
  ·obtain rfl:a=(P,none):=by rw[<-i.out];unfold gh;rw[aa (by decide),aa j]
   have C:(P.ans != 2^zs.length-1)=true:=bne_iff_ne.2 j
   go_enter func192,ntmps192
   go_wp2_with fail
   go_quiet (fail)
   go_wp2_with fail
   go_ret
   exact⟨_,rfl,FrB.zero _ _,k.later (aJ aF _),Kept.of_below (aJ aF _)⟩
theorem abO(A:Nat->Addr)(d:bT zs=0)(l:Held3 w A)(h:LD w lb b cap id deal att zs P):Calls prog 195 #[.pointer (some ⟨lb,0,none⟩)] w fun e w'=>∃v,e=.returned v∧FrB w.heap.size w' v (dm id deal att zs.length (im zs P).2)∧LD w' lb b cap id deal att zs (im zs P).1∧Kept (In1 lb) w w':=by
 obtain⟨a,f⟩:=nmd (bn zs P.ans);obtain⟨c,g⟩:=nmd (im zs P);rw[g.out];have m:=hid h;have q:=hid l;have r:=hid d;have s:=(bp d).2.1;clear h l d
 go_enter func195,ntmps195
 go_wp2_with fail
 refine(pc A a m r q f).mono ?_;rintro e x ⟨rfl,i⟩;have j:=hid (m.later i);have k:=hid i;clear i;have y:=j.cells.2.2.2.2.2.2.1
 cases a with
 | false =>
  obtain rfl:c=(P,none):=by rw[<-g.out];unfold im;rw[af f.out]
  go_wp2_with fail
  go_ret
  exact⟨_,rfl,FrB.zero _ _,j,Kept.of_below k⟩
 | true =>
  obtain rfl:c=ku P (eN P.prep):=by rw[<-g.out];unfold im;rw[aa (by rw[f.out];decide)]
  go_wp2_with (go_at_call 222;refine(zl P.prep _).mono ?_;rintro e t ⟨rfl,rfl⟩)
  refine(kQ (eN P.prep) j s).mono ?_;rintro e t ⟨v,rfl,n,o,p⟩;have u:=hid (And.intro (n.mono k.size) (And.intro o ((Kept.of_below k).trans p)));clear n o p
  go_wp2_with fail
  go_ret
  exact⟨_,rfl,u⟩
end
section
variable {w:World} {lb b cap id:Nat} {deal att:Int} {zs:List Int} {P:PL}
theorem LD.setTold(h:LD w lb b cap id deal att zs P){i:Nat}(n:i<7)(s:S3):LD (((w.setCell ⟨lb,6+i*3,none⟩ (.int .i64 s.p)).setCell ⟨lb,6+i*3+1,none⟩ (.int .i64 s.r)).setCell ⟨lb,6+i*3+2,none⟩ (.int .i64 s.a)) lb b cap id deal att zs { P with told:=dL P.told i s }:=by
 obtain⟨a,c,d,e,f,g,j,l⟩:=oE h.pw.len;have o:P={ P with told:=[a,c,d,e,f,g,j] }:=by rw[<-l]
 have m:PW zs.length P:=h.pw;rw[o]at h;rw[l];have key:∀k:List S3,k.length=7->PW zs.length { P with told:=k }:=fun k p=>⟨p,m.lo,m.hi⟩
 match i,n with
 | 0,_=>exact((h.set (Q:={ P with told:=[⟨s.p,a.r,a.a⟩,c,d,e,f,g,j] }) (key _ rfl) rfl).set (Q:={ P with told:=[⟨s.p,s.r,a.a⟩,c,d,e,f,g,j] }) (key _ rfl) rfl).set (key _ rfl) rfl
 | 1,_=>exact((h.set (Q:={ P with told:=[a,⟨s.p,c.r,c.a⟩,d,e,f,g,j] }) (key _ rfl) rfl).set (Q:={ P with told:=[a,⟨s.p,s.r,c.a⟩,d,e,f,g,j] }) (key _ rfl) rfl).set (key _ rfl) rfl
 | 2,_=>exact((h.set (Q:={ P with told:=[a,c,⟨s.p,d.r,d.a⟩,e,f,g,j] }) (key _ rfl) rfl).set (Q:={ P with told:=[a,c,⟨s.p,s.r,d.a⟩,e,f,g,j] }) (key _ rfl) rfl).set (key _ rfl) rfl
 | 3,_=>exact((h.set (Q:={ P with told:=[a,c,d,⟨s.p,e.r,e.a⟩,f,g,j] }) (key _ rfl) rfl).set (Q:={ P with told:=[a,c,d,⟨s.p,s.r,e.a⟩,f,g,j] }) (key _ rfl) rfl).set (key _ rfl) rfl
 | 4,_=>exact((h.set (Q:={ P with told:=[a,c,d,e,⟨s.p,f.r,f.a⟩,g,j] }) (key _ rfl) rfl).set (Q:={ P with told:=[a,c,d,e,⟨s.p,s.r,f.a⟩,g,j] }) (key _ rfl) rfl).set (key _ rfl) rfl
 | 5,_=>exact((h.set (Q:={ P with told:=[a,c,d,e,f,⟨s.p,g.r,g.a⟩,j] }) (key _ rfl) rfl).set (Q:={ P with told:=[a,c,d,e,f,⟨s.p,s.r,g.a⟩,j] }) (key _ rfl) rfl).set (key _ rfl) rfl
 | 6,_=>exact((h.set (Q:={ P with told:=[a,c,d,e,f,g,⟨s.p,j.r,j.a⟩] }) (key _ rfl) rfl).set (Q:={ P with told:=[a,c,d,e,f,g,⟨s.p,s.r,j.a⟩] }) (key _ rfl) rfl).set (key _ rfl) rfl
theorem LD.told(h:LD w lb b cap id deal att zs P):SL w (some ⟨lb,6,none⟩) P.told:=by
 obtain⟨f,g,i,j,k,l,m,d⟩:=oE h.pw.len;have a:=h.row;unfold pC at a;rw[d]at a ⊢;intro c e;refine⟨lb,6,rfl,?_⟩
 match c,(show c<7 from e)with
 | 0,_=>refine⟨?_,?_,?_⟩<;>rw[ai a]<;>rfl
 | 1,_=>refine⟨?_,?_,?_⟩<;>rw[ai a]<;>rfl
 | 2,_=>refine⟨?_,?_,?_⟩<;>rw[ai a]<;>rfl
 | 3,_=>refine⟨?_,?_,?_⟩<;>rw[ai a]<;>rfl
 | 4,_=>refine⟨?_,?_,?_⟩<;>rw[ai a]<;>rfl
 | 5,_=>refine⟨?_,?_,?_⟩<;>rw[ai a]<;>rfl
 | 6,_=>refine⟨?_,?_,?_⟩<;>rw[ai a]<;>rfl
theorem LD.toldAt(h:LD w lb b cap id deal att zs P){i:Nat}(a:i<7):∃x y c,w.cell? ⟨lb,6+i*3,none⟩=some x∧w.cell? ⟨lb,6+i*3+1,none⟩=some y∧w.cell? ⟨lb,6+i*3+2,none⟩=some c:=by
 obtain⟨j,k,d,e,f,g⟩:=h.told i (by rw[h.pw.len];exact a)
 cases d
 exact⟨_,_,_,e,f,g⟩
theorem abf(a:Option Addr)(c:Nat)(L:List S3)(m:Nat)(x:Int)(y:Bool)(d:L.length=m)(f:m<=200)(g:SL w a L)(h:cD L=(x,y)):Calls prog 221 #[.slice a m c] w fun e w'=>e=.returned (.tuple #[.int .i64 x,.bool y])∧Below w.heap.size w w':=by
 subst d;have:=aaM a c L w f g;rw[h]at this;exact this
theorem zo(A:Nat->Addr)(i:Nat)(s:S3)(E:i<7)(x:bT zs=0)(F:Held3 w A)(h:LD w lb b cap id deal att zs P):Calls prog 194 #[.pointer (some ⟨lb,0,none⟩),.int .i64 (i:Int),.agg #[.int .i64 s.p,.int .i64 s.r,.int .i64 s.a]] w fun e w'=>∃v,e=.returned v∧FrB w.heap.size w' v (dm id deal att zs.length (gj zs P i s).2)∧LD w' lb b cap id deal att zs (gj zs P i s).1∧Kept (In1 lb) w w':=by
 obtain⟨a,c,d⟩:=s;simp only;obtain⟨k,r⟩:=nmd (bn zs P.ans);obtain⟨l,t⟩:=nmd (gj zs P i ⟨a,c,d⟩);rw[t.out];obtain⟨f,y⟩:=nmd (w.alloc (.cells #[iV a,iV c,iV d] 80));have z:Hid (bW w f):=by rw[<-y.out];exact aD
 have B:Hid (f.heap[w.heap.size]?=some (.cells #[iV a,iV c,iV d] 80 (0,0))):=by rw[<-y.out];exact aB w _
 have M:f.cell? ⟨w.heap.size,0,none⟩=some (iV a):=by rw[ai B.out];rfl
 have N:f.cell? ⟨w.heap.size,1,none⟩=some (iV c):=by rw[ai B.out];rfl
 have O:f.cell? ⟨w.heap.size,2,none⟩=some (iV d):=by rw[ai B.out];rfl
 have m:=hid (h.later z);have Q:=hid (F.later z);have R:=hid x;have G:=(bp x).2.1;have a5:lb<w.heap.size:=ah h.row;obtain⟨S,T,U,V,W,X⟩:=m.toldAt E;have Y:=m.fz (6+i*3);have Z:=m.fz (6+i*3+1);have z2:=m.fz (6+i*3+2);have hW:=y.out;have H:=hid ((m.setTold E ⟨a,c,d⟩).later aF.drew);have I:Hid (Kept (In1 lb) f (((f.setCell ⟨lb,6+i*3,none⟩ (iV a)).setCell ⟨lb,6+i*3+1,none⟩ (iV c)).setCell ⟨lb,6+i*3+2,none⟩ (iV d)).drew):=((((Kept.refl _ _).set1 _ _).set1 _ _).set1 _ _).drew;have a0:=hid (Q.kept I (fun a1 g=>by rw[show a1=lb from g];exact h.glo));have a2:Hid (bn zs ({ P with told:=dL P.told i ⟨a,c,d⟩ }:PL).ans=k):=r.out;clear h F x;have a6:(i:Int)<7:=by omega
 go_enter func194,ntmps194
 go_wp2_with fail
 go_region
 all_goals go_wp2_with fail
 refine(pc A k H R a0 a2).mono ?_;rintro e w1 ⟨rfl,j⟩;have n:=hid (H.later j);have J:=hid (((Kept.of_below (S:=In1 lb) z).trans I).trans (Kept.of_below j));clear j M N O V W X Y Z z2 S T U
 cases k with
 | false =>
  obtain rfl:l=({ P with told:=dL P.told i ⟨a,c,d⟩ },none):=by rw[<-t.out];unfold gj;rw[af r.out]
  go_wp2_with fail
  go_ret
  exact⟨_,rfl,FrB.zero _ _,n,J⟩
 | true =>
  obtain⟨⟨o,K⟩,C⟩:∃a3,Hid (cD (dL P.told i ⟨a,c,d⟩)=a3):=⟨_,rfl⟩;have a4:=hid n.told;have a7:lb<w1.heap.size:=ah n.row
  go_wp2_with fail
  refine(abf (some ⟨lb,6,none⟩) _ (dL P.told i ⟨a,c,d⟩) 7 o K n.pw.len (by decide) a4 C).mono ?_;rintro e w2 ⟨rfl,j⟩;have L:=hid (n.later j);have u:=hid (J.trans (Kept.of_below j));clear j
  cases K with
  | true =>
   obtain rfl:l=ku { P with told:=dL P.told i ⟨a,c,d⟩ } o:=by rw[<-t.out];unfold gj;rw[aa (by rw[r.out];decide),C.out,af rfl]
   go_wp2_with fail
   refine(kQ o L G).mono ?_;rintro e w3 ⟨v,rfl,p,q,g⟩;have D:=hid (And.intro (p.mono u.size) (And.intro q (u.trans g)));clear p q g
   go_wp2_with fail
   go_ret
   exact⟨_,rfl,D⟩
  | false =>
   obtain rfl:l=lG { P with told:=dL P.told i ⟨a,c,d⟩ } o:=by rw[<-t.out];unfold gj;rw[aa (by rw[r.out];decide),C.out,aa (by simp)]
   go_wp2_with fail
   refine(mT o L G).mono ?_;rintro e w3 ⟨v,rfl,p,q,g⟩;have D:=hid (And.intro (p.mono u.size) (And.intro q (u.trans g)));clear p q g
   go_wp2_with fail
   go_ret
   exact⟨_,rfl,D⟩
end
section
variable {w:World} {lb b cap id:Nat} {deal att:Int} {zs:List Int} {P:PL}
theorem yK(f t d k a:Int)(y:Bool)(c g i:Int)(x:Bool)(j:zs.length<=7)(l:P.stt<4)(h:LD w lb b cap id deal att zs P)(m:ek zs.length id deal att P ⟨f,t,d,k,a,y,c,g,i⟩=x):Calls prog 191 #[.pointer (some ⟨lb,0,none⟩),frV f t d k a y c g i] w fun e w'=>e=.returned (.bool x)∧Below w.heap.size w w':=by
 subst m;exact xg f t d k a y c g i j l h
structure HI (w W:World) (A:Nat->Addr) (lb b cap id:Nat) (deal att:Int) (zs:List Int) (P:PL) (f t d k a:Int) (y:Bool) (p1 p2 p3:Int):Prop where
 ld:LD W lb b cap id deal att zs P
 fr:W.heap[w.heap.size]?=some (.cells #[.int .i64 f,.int .i64 t,.int .i64 d,.int .i64 k,.int .i64 a,.bool y,.int .i64 p1,.int .i64 p2,.int .i64 p3] 125 (0,0))
 kp:Kept (In1 lb) w W
 er:Held3 W A
theorem HI.go{W V:World}{A:Nat->Addr}{Q:PL}{f t d k a:Int}{y:Bool}{e g i:Int}(h:HI w W A lb b cap id deal att zs P f t d k a y e g i)(o:lb<w.heap.size)(j:LD V lb b cap id deal att zs Q)(c:Kept (In1 lb) W V):HI w V A lb b cap id deal att zs Q f t d k a y e g i:=
 ⟨j,c.row h.fr (fun l=>by have:w.heap.size=lb:=l;omega),h.kp.trans c,h.er.kept c (fun m n=>by rw[show m=lb from n];exact j.glo)⟩
theorem HI.later{W V:World}{A:Nat->Addr}{f t d k a:Int}{y:Bool}{c e g:Int}(h:HI w W A lb b cap id deal att zs P f t d k a y c e g)(j:lb<w.heap.size)(i:Below W.heap.size W V):HI w V A lb b cap id deal att zs P f t d k a y c e g:=
 h.go j (h.ld.later i) (Kept.of_below i)
theorem qn(A:Nat->Addr)(f t d k a:Int)(y:Bool)(j c l:Int)(S:bT zs=0)(W:P.stt<4)(X:Held3 w A)(h:LD w lb b cap id deal att zs P):Calls prog 166 #[.pointer (some ⟨lb,0,none⟩),frV f t d k a y j c l] w fun e w'=>∃v,e=.returned v∧FrB w.heap.size w' v (dm id deal att zs.length (aL zs id deal att P ⟨f,t,d,k,a,y,j,c,l⟩).2)∧LD w' lb b cap id deal att zs (aL zs id deal att P ⟨f,t,d,k,a,y,j,c,l⟩).1∧Kept (In1 lb) w w':=by
 obtain⟨q,r⟩:=nmd (aL zs id deal att P ⟨f,t,d,k,a,y,j,c,l⟩);rw[r.out];obtain⟨x,z⟩:=nmd (ek zs.length id deal att P ⟨f,t,d,k,a,y,j,c,l⟩);obtain⟨B,C⟩:=nmd (w.alloc (.cells #[iV f,iV t,iV d,iV k,iV a,.bool y,iV j,iV c,iV l] 125));have D:Hid (bW w B):=by rw[<-C.out];exact aD
 have E:lb<w.heap.size:=ah h.row;have F:Hid (HI w B A lb b cap id deal att zs P f t d k a y j c l):=⟨h.later D,by rw[<-C.out];exact aB w _,Kept.of_below D,X.later D⟩;have Y:=hid S;have a2:=hid W;have T:=(bp S).2.1;obtain⟨G,H,I,J,K,L,M,N,O⟩:=bH F.fr;have hW:=C.out;clear h X S W
 go_enter func166,ntmps166
 go_wp2_with fail
 refine(yK f t d k a y j c l x T a2 F.ld z).mono ?_;rintro e w1 ⟨rfl,Z⟩;have o:=hid (F.later E Z);clear Z G H I J K L M N O F D C hW
 cases x with
 | false =>
  obtain rfl:q=(P,none):=by rw[<-r.out];unfold aL;rw[aa (by rw[z.out];decide)]
  go_wp2_with fail
  go_ret
  exact⟨_,rfl,FrB.zero _ _,o.ld,o.kp⟩
 | true =>
  obtain⟨-,-,⟨q0,q1⟩,-⟩:=iC z;simp only at q0 q1;obtain⟨g,rfl⟩:=bD q0;have hm:g<zs.length:=by omega
  have a3:g<7:=by omega
  obtain⟨G,H,I,J,K,L,M,N,O⟩:=bH o.fr;have c5:=o.ld.cells.2.2.2.2.2.1;have z5:=o.ld.fz 5;have a0:=sd T o.ld.pw.lo o.ld.pw.hi hm;have a1:=hid (o.ld.setAns (iY P.ans g) a0.1 a0.2);have a4:lb<w1.heap.size:=ah o.ld.row;have hp:=(dZ (n:=g) (by omega)).1;have a5:=(dZ (n:=g) (by omega)).2;unfold iY at a1;have s:=hid (o.go E (a1.later aF.drew) ((Kept.refl _ _).set1 _ _).drew);have Q:Hid (aL zs id deal att P ⟨(g:Int),t,d,k,a,y,j,c,l⟩=cO zs P ⟨(g:Int),t,d,k,a,y,j,c,l⟩):=by unfold Hid aL;rw[af z.out]
  have HN:Hid (cP P ⟨(g:Int),t,d,k,a,y,j,c,l⟩={ P with ans:=bits .or .i64 P.ans (2^g) }):=rfl
  by_cases R:k=2
  ·subst R
   obtain rfl:q=gh zs.length { P with ans:=bits .or .i64 P.ans (2^g) } y:=by rw[<-r.out,Q.out];unfold cO;rw[af rfl];rfl
   go_wp2_with fail
   go_region
   all_goals go_wp2_with fail
   refine(aas y T s.ld).mono ?_;rintro e w2 ⟨v,rfl,p,m,n⟩;have u:=hid (And.intro (p.mono s.kp.size) (And.intro m (s.kp.trans n)));clear p m n
   go_wp2_with fail
   go_ret
   exact⟨_,rfl,u⟩
  ·have e2:(k==2)=false:=beq_eq_false_iff_ne.2 R
   go_wp2_with fail
   go_region
   all_goals go_wp2_with fail
   refine(abB c s.ld).mono ?_;rintro e w2 ⟨rfl,m,n⟩;have i:=hid (s.go E m n);clear m n G H I J K L M N O c5 z5;obtain⟨G,H,I,J,K,L,M,N,O⟩:=bH i.fr;have z4:=i.ld.fz 4;have c4:=i.ld.cells.2.2.2.2.1;have a6:lb<w2.heap.size:=ah i.ld.row
   cases y with
   | false =>
    obtain rfl:q=({ dI { P with ans:=bits .or .i64 P.ans (2^g) } c with stt:=3 },none):=by rw[<-r.out,Q.out];unfold cO;rw[aa (by exact R),af rfl];rfl
    have U:=hid (i.go E (i.ld.setSt 3) ((Kept.refl _ _).set1 _ _));rw[aac]at U
    go_wp2_with fail
    go_ret
    exact⟨_,rfl,FrB.zero _ _,U.ld,U.kp⟩
   | true =>
    by_cases V:k=4
    ·subst V
     obtain rfl:q=gj zs (dI { P with ans:=bits .or .i64 P.ans (2^g) } c) g ⟨j,c,l⟩:=by rw[<-r.out,Q.out];unfold cO;rw[aa (by simp),aa (by simp),af rfl];rfl
     go_wp2_with fail
     refine(zo A g ⟨j,c,l⟩ a3 Y i.er i.ld).mono ?_;rintro e w3 ⟨v,rfl,p,m,n⟩;have u:=hid (And.intro (p.mono i.kp.size) (And.intro m (i.kp.trans n)));clear p m n
     go_wp2_with fail
     go_ret
     exact⟨_,rfl,u⟩
    ·have e4:(k==4)=false:=beq_eq_false_iff_ne.2 V
     obtain rfl:q=im zs (dI { P with ans:=bits .or .i64 P.ans (2^g) } c):=by rw[<-r.out,Q.out];unfold cO;rw[aa (by exact R),aa (by simp),aa (by exact V)];rfl
     go_wp2_with fail
     refine(abO A Y i.er i.ld).mono ?_;rintro e w3 ⟨v,rfl,p,m,n⟩;have u:=hid (And.intro (p.mono i.kp.size) (And.intro m (i.kp.trans n)));clear p m n
     go_wp2_with fail
     go_ret
     exact⟨_,rfl,u⟩
end
end Go.Proofs.YtaehdgemkafinaaGreatDoor
