/-
  On the way to SPlaysProof: VY YD YR YF GP.
-/
import Derived.Test.YtaehdgemkafinaaGreatDoorBx31
import Derived.Test.YtaehdgemkafinaaGreatDoorBx29
import Derived.Deep.CutBlock
set_option maxHeartbeats 8000000
set_option maxRecDepth 100000
namespace Go.Proofs.YtaehdgemkafinaaGreatDoor
open Go.RowKit
open Go.Proofs.Tryz
section
variable {w0 w w':World} {C C':Nat→Nat} {K:NB} {X:XB} {i m m':Nat} {zs:List Int} {N:PN} {V V':PX} {A:Nat→Addr}
theorem kW{n s d:Nat}{a:Int}(f:NI n N m)(g:N.l≠-2)(h:FI n (aH s d a))(j:m<4000000000):(upN (aM N (aH s d a))=false∧ca s N (aH s d a)=[])∨(upN (aM N (aH s d a))=true∧∃k,ca s N (aH s d a)=[k]):=by
 have c:=fY f g h j;have l:(gHN N (aH s d a)).k=4:=by
  unfold gHN aO;rw[aa (by show ¬((3:Int).toNat=1);decide),af (by show(3:Int).toNat=3;decide)]
  split<;>rfl
 rcases c.c with b|b
 ·right
  refine⟨by rw[c.up,b];rfl,?_⟩;unfold ca;rw[af ⟨b,by rw[l];decide⟩];exact⟨_,rfl⟩
 ·left
  refine⟨by rw[c.up,b];rfl,?_⟩;unfold ca;rw[aa (fun e=>by rw[b]at e;cases e.1)]
theorem WOut.mono(h:WOut w0 w w' C X zs V m)(a:m<=m'):WOut w0 w w' C X zs V m':=by
 obtain⟨C',b,c,d,e,f⟩:=h;exact⟨C',b,c.mono a,d,e,f⟩
theorem afQ(s d p:Nat)(h:WD w0 w C X zs V m)(l:Held9 w0 A)(a:s<zs.length)(b:d<6)(g:(V.nd s).l≠-2)(r:m<1000000)(n:(stN (V.nd s) d).pr=p):Calls prog 111 #[.pointer (some ⟨X.xb,0,none⟩),.int .i64 (s:Int),.int .i64 (d:Int),.int .i64 (p:Int)] w fun e w'=>e=.returned (.tuple #[])∧WOut w0 w w' C X zs (ei zs V s d (ci zs.length s (bN (V.nd s) d))) (m+7):=by
 have x:=gS (h.inv.nd s a) b;have y:=lF zs.length s (bN (V.nd s) d) (by omega)
 by_cases t:1048576<ci zs.length s (bN (V.nd s) d)
 ·refine(ahm s d p h l a b n t).mono ?_
  rintro e w' ⟨c,f⟩;refine⟨c,?_⟩;unfold ei;rw[af t];exact h.out f (by omega)
 ·obtain⟨o,j⟩:=bD (show 0<=ci zs.length s (bN (V.nd s) d) by omega)
  have u:=iK (a:=(o:Int)) a h.n7.2 b (by omega);rcases kW (h.inv.nd s a) g u (by omega)with⟨k,e⟩|⟨k,q,e⟩
  ·refine(aeU s d p o h l a b g r n j (by omega) (by omega) k e).mono ?_
   rintro e w' ⟨c,f⟩;refine⟨c,?_⟩;rw[j];unfold ei;rw[aa (by omega),af k];exact f.mono (by omega)
  ·have v:FI zs.length q:=kj (h.inv.nd s a) g u (by omega) rfl q (by rw[e];exact List.mem_singleton.2 rfl)
   refine(ahZ s d p o q h l a b g r n j (by omega) (by omega) k e v).mono ?_;rintro e w' ⟨c,f⟩;refine⟨c,?_⟩;rw[j];exact f.mono (by omega)
theorem fo(s:Nat){q:Nat}(a:q<6):dJ zs s (6-q) q V=if upN ((dy zs V s q).nd s)=true then dJ zs s (6-(q+1)) (q+1) (dy zs V s q)else dy zs V s q:=by
 rw[show 6-q=(6-(q+1))+1 by omega];rfl
theorem qh(h1 a c:Nat)(b:Bool)(d:decide (h1=0∧a=0∧c=0)=b)(w:World):(binOp .eql 80 (.agg #[.int .i64 (h1:Int),.int .i64 (a:Int),.int .i64 (c:Int)]) (.agg #[.int .i64 0,.int .i64 0,.int .i64 0])).run prog w=.ok (.bool b) w:=
 ab6 _ _ _ _ _ _ b (by rw[<-d];congr 1;exact propext (by omega)) w
theorem agC(s:Nat)(h:WD w0 w C X zs V m)(T:Held9 w0 A)(hs:s<zs.length)(hu:(V.nd s).l≠-2)(hm:m<900000):Calls prog 43 #[.pointer (some ⟨X.xb,0,none⟩),.int .i64 (s:Int)] w fun e w'=>e=.returned .nilIface∧WOut w0 w w' C X zs (dJ zs s 6 0 V) (m+42):=by
 have M:=hid h;have HE:=hid T;have a8:=hid (h.held T);have f:=hid hs;have HU:Hid (((V.nd s).l != -2)=true):=by show((V.nd s).l != -2)=true;simpa using hu
 obtain⟨u,HT⟩:=nmd (dJ zs s 6 0 V);rw[HT.out];clear h T hs hu
 go_enter func43,ntmps43
 go_wp2_with fail
 refine(hQ s M f).mono ?_;rintro e w1 ⟨rfl,F⟩;subst w1
 go_wp2_with fail
 refine(fm true (M.nds s f) a8 HU).mono ?_;rintro e w1 ⟨rfl,U⟩;simp only[if_true];have a9:=hid U;have H1:=hid (M.later U);clear U
 go_wp2_with fail
 go_loopw [21] (fun W wr=>∃(a:Nat) (d:PX),a<=6∧W=iV (a:Int)∧Hid (dJ zs s (6-a) a d=u)∧Hid ((d.nd s).l≠-2)∧WOut w0 w wr C X zs d (m+7*a)) (fun W _=>6-(intOf W).toNat)
 case atStart=>exact⟨0,V,Nat.zero_le _,rfl,HT,by have:=HU.out;show(V.nd s).l≠-2;simpa using this,M.out.out a9 (by omega)⟩
 case round =>
  obtain⟨a,d,hq,rfl,J,Y,O,P,Z,g2,g3,g4⟩:=hrel;have c:=hid (And.intro Z (And.intro g2 (And.intro g3 g4)));have c0:=(Z.nds s f).site;rw[iN g2]at c0;obtain⟨⟨g,k,n⟩,v⟩:∃b0,Hid (stN (d.nd s) a=b0):=⟨_,rfl⟩;clear Z g2 g3 g4
  by_cases t:a<6
  ·have b1:=hid (kM a g k n (c.1.nds s f).sp.jp.jr (c.1.nds s f).sp.sr t v)
   go_wp2_with fail
   refine b1.mono ?_;rintro e G ⟨rfl,a0⟩;obtain⟨p,a1⟩:=nmd (G.alloc (.cells #[iV (g:Int),iV (k:Int),iV (n:Int)] 80));have b4:=a1.out;have Q:Hid (bW wr p):=by rw[<-a1.out];exact a0.alloc a0.size _
   have a2:Hid (p.heap[G.heap.size]?=some (.cells #[iV (g:Int),iV (k:Int),iV (n:Int)] 80 (0,0))):=by rw[<-a1.out];exact aB G _
   have b5:p.cell? ⟨G.heap.size,0,none⟩=some (iV (g:Int)):=by rw[ai a2.out];rfl
   have b6:p.cell? ⟨G.heap.size,1,none⟩=some (iV (k:Int)):=by rw[ai a2.out];rfl
   have b7:p.cell? ⟨G.heap.size,2,none⟩=some (iV (n:Int)):=by rw[ai a2.out];rfl
   have H3:=hid (c.1.later Q);have b2:Hid (WOut w0 w p C X zs d (m+7*a)):=⟨O,P,H3,c.2.1,c.2.2.1.trans (Kept.of_below Q),c.2.2.2⟩;have a4:Hid (g<=5∧k<=1048576):=by have:=(c.1.inv.nd s f).gd a t;have h4:(dlN (d.nd s) a).2=⟨g,k,n⟩:=v.out;rw[h4]at this;exact⟨this.1,this.2.1⟩
   clear a0
   by_cases R:g=0∧k=0∧n=0
   ·obtain⟨z1,z2,z3⟩:=R
    have b3:∀w,(binOp .eql 80 (.agg #[iV (g:Int),iV (k:Int),iV (n:Int)]) (.agg #[iV 0,iV 0,iV 0])).run prog w=.ok (.bool true) w:=qh g k n true (bo ⟨z1,z2,z3⟩);obtain⟨b,q⟩:=nmd (d);have H:Hid (dy zs d s a=b):=by
     rw[<-q.out];unfold dy;exact af (by rw[v.out,z1,z2,z3];rfl)
    have l:Hid (upN (b.nd s)=true):=by rw[<-q.out];have:=Y.out;show upN (d.nd s)=true;unfold upN;simpa using this
    have r:Hid (WOut w0 w p C X zs b (m+7*a+7)):=by rw[<-q.out];exact b2.mono (by omega)
    clear z1 z2 z3;obtain⟨C4,X4,j,o,x,y⟩:=r.out;obtain⟨z,e1,e2⟩:=(j.nds s f).way;rw[iN o]at z;have B:=hid (j.nds s f).sp.jp.pl;have D:Hid (dJ zs s (6-(a+1)) (a+1) b=u):=by have:=J.out;rw[fo s t,H.out,af l.out]at this;exact this
    clear j o x y
    go_wp2_with fail
    refine(fK _ _ _ _ true p B l).mono ?_;rintro e E ⟨rfl,F⟩;subst E
    go_wp2_with fail
    go_roundw
    case rel=>exact⟨a+1,b,by omega,by go_num,D,(by have:=l.out;show(b.nd s).l≠-2;unfold upN at this;simpa using this),r.mono (by omega)⟩
    case measure=>simp[intOf];omega
   ·have b3:∀w,(binOp .eql 80 (.agg #[iV (g:Int),iV (k:Int),iV (n:Int)]) (.agg #[iV 0,iV 0,iV 0])).run prog w=.ok (.bool false) w:=qh g k n false (aS R)
    have a5:Hid (¬stN (d.nd s) a=St.zero):=fun e=>R (by rw[v.out]at e;exact⟨congrArg St.ph e,congrArg St.pr e,congrArg St.at_ e⟩)
    obtain⟨fb,S⟩:=nmd (aT g);clear R
    cases fb with
    | true =>
     obtain⟨b,q⟩:=nmd (aW d (toL s a 7 k g zs.length));have H:Hid (dy zs d s a=b):=by
      rw[<-q.out];unfold dy;rw[aa a5.out,v.out,af S.out];exact rfl
     have l:Hid (upN (b.nd s)=true):=by rw[<-q.out];have:=Y.out;show upN (d.nd s)=true;unfold upN;simpa using this
     have a6:=hid (xf s a g k n H3 f t a4.1 a4.2 (by omega));rw[dU c.out.2.1,q.out]at a6
     go_wp2_with (go_at_call 109;refine(jU g true _ S).mono ?_;rintro e w9 ⟨rfl,F⟩;subst w9)
     refine a6.mono ?_;rintro e I ⟨rfl,L⟩;have r:Hid (WOut w0 w I C X zs b (m+7*a+7)):=WOut.step (C1:=O) (X1:=P) c.2.1 (c.2.2.1.trans (Kept.of_below Q)) c.2.2.2 L;clear L;obtain⟨C4,X4,j,o,x,y⟩:=r.out;obtain⟨z,e1,e2⟩:=(j.nds s f).way;rw[iN o]at z;have B:=hid (j.nds s f).sp.jp.pl;have D:Hid (dJ zs s (6-(a+1)) (a+1) b=u):=by have:=J.out;rw[fo s t,H.out,af l.out]at this;exact this
     clear j o x y
     go_wp2_with fail
     refine(fK _ _ _ _ true I B l).mono ?_;rintro e E ⟨rfl,F⟩;subst E
     go_wp2_with fail
     go_roundw
     case rel=>exact⟨a+1,b,by omega,by go_num,D,(by have:=l.out;show(b.nd s).l≠-2;unfold upN at this;simpa using this),r.mono (by omega)⟩
     case measure=>simp[intOf];omega
    | false =>
     obtain⟨b,q⟩:=nmd (ei zs d s a (ci zs.length s (bN (d.nd s) a)));have H:Hid (dy zs d s a=b):=by
      rw[<-q.out];unfold dy;rw[aa a5.out,v.out,aa (by rw[S.out];decide)];exact rfl
     have a7:=hid (afQ s a k H3 HE f t Y (by omega) (by rw[v.out]));rw[dU c.out.2.1,q.out]at a7
     go_wp2_with (go_at_call 109;refine(jU g false _ S).mono ?_;rintro e w9 ⟨rfl,F⟩;subst w9)
     refine a7.mono ?_;rintro e I ⟨rfl,L⟩;have r:Hid (WOut w0 w I C X zs b (m+7*a+7)):=WOut.step (C1:=O) (X1:=P) c.2.1 (c.2.2.1.trans (Kept.of_below Q)) c.2.2.2 L;clear L;obtain⟨a3,l⟩:=nmd (upN (b.nd s))
     cases a3 with
     | true =>
      obtain⟨C4,X4,j,o,x,y⟩:=r.out;obtain⟨z,e1,e2⟩:=(j.nds s f).way;rw[iN o]at z;have B:=hid (j.nds s f).sp.jp.pl;have D:Hid (dJ zs s (6-(a+1)) (a+1) b=u):=by have:=J.out;rw[fo s t,H.out,af l.out]at this;exact this
      clear j o x y
      go_wp2_with fail
      refine(fK _ _ _ _ true I B l).mono ?_;rintro e E ⟨rfl,F⟩;subst E
      go_wp2_with fail
      go_roundw
      case rel=>exact⟨a+1,b,by omega,by go_num,D,(by have:=l.out;show(b.nd s).l≠-2;unfold upN at this;simpa using this),r.mono (by omega)⟩
      case measure=>simp[intOf];omega
     | false =>
      obtain⟨C4,X4,j,o,x,y⟩:=r.out;obtain⟨z,e1,e2⟩:=(j.nds s f).way;rw[iN o]at z;have B:=hid (j.nds s f).sp.jp.pl;have D:Hid (b=u):=by have:=J.out;rw[fo s t,H.out,aa (by rw[l.out];decide)]at this;exact this
      clear j o x y
      go_wp2_with fail
      refine(fK _ _ _ _ false I B l).mono ?_;rintro e E ⟨rfl,F⟩;subst E
      go_wp2_with fail
      go_ret
      refine⟨rfl,?_⟩;rw[<-D.out];exact r.mono (by omega)
  ·obtain rfl:a=6:=by omega
   go_wp2_with fail
   go_ret
   refine⟨rfl,?_⟩;rw[<-J.out];exact⟨O,P,c.1,c.2.1,c.2.2.1,c.2.2.2⟩
theorem aff(s:Int)(c:Nat)(h:WD w0 w C X zs V m)(j:Held9 w0 A)(t:m<900000)(u:cUp zs.length V s=c):Calls prog 43 #[.pointer (some ⟨X.xb,0,none⟩),.int .i64 s] w fun e w'=>e=.returned (ev A c)∧WOut w0 w w' C X zs (if c=0 then dJ zs s.toNat 6 0 V else V) (m+42):=by
 have d:=hid h;have p:=hid j;have v:=hid (h.held j);clear h j;subst u
 by_cases b:0<=s∧s<zs.length
 ·obtain⟨a,rfl⟩:=bD b.1
  have k:a<zs.length:=by omega
  have q:=hid k;obtain⟨g,l⟩:=nmd (((V.nd a).l != -2));have r:Hid (upN (V.nd a)=g):=l.out
  cases g with
  | true =>
   have e:cUp zs.length V a=0:=by unfold cUp;rw[af b,aU,r.out,af rfl]
   rw[e,af rfl,aU];exact agC a d p k (by have:=l.out;simpa using this) t
  | false =>
   have e:cUp zs.length V a=6:=by unfold cUp;rw[af b,aU,r.out,aa (by decide)]
   rw[e];clear e b k
   go_enter func43,ntmps43
   go_wp2_with fail
   refine(hQ a d q).mono ?_;rintro e n ⟨rfl,x⟩;subst n
   go_wp2_with fail
   refine(fm false (d.nds a q) v l).mono ?_;rintro e n ⟨rfl,f⟩;rw[aa (by decide),aa (by decide)];have o:=hid f;clear f
   go_wp2_with fail
   go_ret
   exact⟨rfl,d.out.out o (by omega)⟩
 ·have e:cUp zs.length V s=2:=by unfold cUp;rw[aa b]
  rw[e];have y:=hid b;clear e b
  go_enter func43,ntmps43
  go_wp2_with fail
  refine(ki s d p y).mono ?_;rintro e n ⟨rfl,f⟩;have o:=hid f;clear f
  go_wp2_with fail
  refine(jD _ _).mono ?_;rintro e z ⟨rfl,x⟩;subst z
  go_wp2_with fail
  go_ret
  exact⟨rfl,d.out.out o (by omega)⟩
end
section
variable {zs:List Int} {V V':PX} {m:Nat} {g g':Gh}
theorem XI.hear{i:Nat}{f:F9}(a:XI zs V m)(d:(V.nd i).l≠-2)(e:FI zs.length f)(h:m<4000000000)(j:i<zs.length):XI zs (aQ V i f) (m+1):=by
 have k:=fY (a.nd i j) d e h;refine⟨a.he,fun b l=>?_,a.fr,by have o:V.fly.length<=1000*m:=a.fl;show V.fly.length<=1000*(m+1);omega,?_⟩
 ·show NI zs.length ((aA V i (aM (V.nd i) f)).nd b) (m+1)
  by_cases c:b=i
  ·subst c;rw[eA];exact k.ni
  ·rw[fE _ _ _ c];exact(a.nd b l).mono (aP _)
 ·show(noteE V.evs i f.d.toNat (stN (V.nd i) f.d.toNat).ph (stN (aM (V.nd i) f) f.d.toNat).ph).length<=500
  have:=a.ev;unfold noteE
  split
  ·rename_i n
   rw[aR,List.length_singleton];have:=n.2.2;omega
  ·exact this
theorem dV{i d:Nat}{f:F9}{x:Int×PL}(a:(V.nd i).ld d=some x):dH zs V i d f=aA V i (aC (V.nd i) d (x.1,(aL zs i d x.1 x.2 f).1))∧dq zs V i d f=dm i d x.1 zs.length (aL zs i d x.1 x.2 f).2:=by
 unfold dH dq;rw[a];exact⟨rfl,rfl⟩
theorem hZ{i d:Nat}{f:F9}(a:(V.nd i).ld d=none):dH zs V i d f=V∧dq zs V i d f=[]:=by
 unfold dH dq;rw[a];exact⟨rfl,rfl⟩
theorem XI.lead{i d:Nat}{f:F9}(b:XI zs V m)(k:FI zs.length f)(e:i<zs.length)(l:d<6):XI zs (aW (dH zs V i d f) (dq zs V i d f)) (m+1):=by
 have h:=(bp b.he).2.1
 cases a:(V.nd i).ld d with
 | none =>
  rw[(hZ a).1,(hZ a).2,iE];exact b.mono (aP _)
 | some c =>
  rw[(dV a).1,(dV a).2];obtain⟨q,n,o,j,p⟩:=(b.nd i e).ld d c a;have r:=k.ok.2.2.2.2.2.2.1;refine XI.send (b.node ((b.nd i e).leadHear a (tN o) (mN j.1 j.2 (by omega) (by omega)) (p.hear h)) aj) (lV e h l n) ?_;have:=me i d c.1 zs.length (aL zs i d c.1 c.2 f).2;omega
theorem AX.take(h:AX zs V)(k:Nat):AX zs (ay V k):=h.quiet (fun _ _=>rfl) (fun _ _ _ _ a=>a) (fun _ b=>List.mem_of_mem_eraseIdx b) rfl
theorem AX.deliver{k:Nat}{f:F9}(h:AX zs V)(p:XI zs V m)(z:m<4000000000)(v:f∈V.fly):AX zs (aX zs V k f)∧Mo zs V (aX zs V k f):=by
 have n:=p.fr f v;have q:=h.take k;have e:XI zs (ay V k) m:=p.take;have r:Mo zs V (ay V k):=Mo.same p fun _ _=>rfl
 have j:f.t.toNat<zs.length:=by have:=n.t0;have:=n.t1;omega
 have K:0<=f.d∧f.d<=5:=n.ok.2.2.1;unfold aX
 split
 ·rename_i w
  have A:((ay V k).nd f.t.toNat).l≠-2:=by
   show(V.nd f.t.toNat).l≠-2;unfold gV at w;rw[Bool.and_eq_true]at w;have:=w.1;unfold upN at this
   simpa using this
  have L:∀a g,GX zs V a g->f.d=(a:Int)->Fr zs (stD (ay V k) a) g f:=fun a g d o=>d.fr f v o
  have B:∀a,a<6->∃g,GX zs (ay V k) a g∧(f.d=(a:Int)->Fr zs (stD (ay V k) a) g f):=fun a o=>by
   obtain⟨g,d⟩:=h.gx a o;exact⟨g,d.quiet (fun _=>rfl) (fun _ _ _ b=>b) (fun _ b=>List.mem_of_mem_eraseIdx b),fun c=>d.fr f v c⟩
  unfold de cX
  split
  ·
   cases i:((ay V k).nd f.t.toNat).ld f.d.toNat with
   | none =>
    rw[(hZ i).1,(hZ i).2,iE];exact⟨q,r⟩
   | some b =>
    rw[(dV i).1,(dV i).2];generalize M:(ay V k)=s at *
    have C:∀t c,stN ((aW (aA s f.t.toNat (aC (s.nd f.t.toNat) f.d.toNat (b.1,(aL zs f.t.toNat f.d.toNat b.1 b.2 f).1))) (dm f.t.toNat f.d.toNat b.1 zs.length (aL zs f.t.toNat f.d.toNat b.1 b.2 f).2)).nd t) c=stN (s.nd t) c:=fun t c=>jd s f.t.toNat f.d.toNat _ t c
    refine⟨⟨fun c u=>?_,q.ex.same C rfl⟩,r.trans (Mo.same e C)⟩;obtain⟨g,d,x⟩:=B c u
    by_cases D:c=f.d.toNat
    ·have G:f.d=(c:Int):=by omega
     obtain⟨-,-,-,-,H⟩:=(e.nd _ j).ld _ b i;rw[<-D]at i ⊢;obtain⟨g',y,I⟩:=xU d p.he i H j e.fr (x G);exact⟨g',y.send fun E l _=>I E l⟩
    ·refine⟨g,(d.other D).send fun E l N=>?_⟩
     exfalso
     cases F:(aL zs f.t.toNat f.d.toNat b.1 b.2 f).2 with
     | none=>rw[F]at l;cases l
     | some O =>
      rw[F]at l;have:=(jA l).2.2.2.2.2;omega
  ·
   have u:=yc (f:=f) q.ex (e.nd _ j) A n z j e;refine⟨⟨fun a o=>?_,u.1.same (fun _ _=>rfl) rfl⟩,r.trans u.2⟩;obtain⟨g,d,x⟩:=B a o;obtain⟨g',y,-,-,J⟩:=xR d (e.nd _ j) A n z j e.fr x;exact⟨g',y.send J⟩
 ·exact⟨q,r⟩
theorem pX{s:Nat->St}{f:F9}(b:f.k=1∨f.k=3):Fr zs s g f:=
 ⟨fun a=>by omega,fun a=>by omega,fun a=>by omega,fun a=>by omega,fun a=>by omega,fun a=>by omega,fun a=>by omega⟩
theorem AX.begin{s d:Nat}(h:AX zs V)(i:XI zs V m):AX zs (dP zs V s d)∧Mo zs V (dP zs V s d):=by
 have c:∀b a,stN ((dP zs V s d).nd b) a=stN (V.nd b) a:=fun b a=>jd V s d _ b a
 refine⟨⟨fun a j=>?_,h.ex.same c rfl⟩,Mo.same i c⟩;obtain⟨g,e⟩:=h.gx a j;refine⟨g,GX.send ?_ fun l k _=>pX (.inl (jA k).1)⟩
 by_cases f:a=d
 ·subst f;exact e.newLead (ahu _ _ _)
 ·exact e.other f
theorem wl{n s:Nat}(c:1<=n∧n<=7)(d:s<n){a:Int}(e:0<=a):(ci n s a).toNat%n=s:=by
 have b:n=1∨n=2∨n=3∨n=4∨n=5∨n=6∨n=7:=by omega
 unfold ci;rcases b with rfl|rfl|rfl|rfl|rfl|rfl|rfl<;>omega
theorem XI.try{s d:Nat}(c:XI zs V m)(a:s<zs.length)(e:d<6)(h:(V.nd s).l≠-2)(v:m<1000000):XI zs (ei zs V s d (ci zs.length s (bN (V.nd s) d))) (m+7):=by
 have i:=(bp c.he).2.1;have w:=gS (c.nd s a) e;have p:=lF zs.length s (bN (V.nd s) d) (by omega);generalize ci zs.length s (bN (V.nd s) d)=b at p
 by_cases j:1048576<b
 ·unfold ei
  rw[af j];exact c.mono (by omega)
 ·have k:=iK (a:=b) a i e (by omega)
  have l:=c.hear h k (by omega) a;rcases kW (c.nd s a) h k (by omega)with⟨f,-⟩|⟨f,n,o⟩
  ·unfold ei
   rw[aa j,af f];exact l.mono (by omega)
  ·have q:FI zs.length n:=kj (c.nd s a) h k (by omega) rfl n (by rw[o];exact List.mem_singleton.2 rfl)
   rw[<-qV s d b n o j f];have r:((aQ V s (aH s d b)).nd s).l≠-2:=by
    rw[gU];unfold upN at f
    simpa using f
   have t:=l.node (i:=s) ((l.nd s a).putLead (d:=d) (a:=b) (P:=P0) r (by omega) (by decide) (by decide) (rX _)) aj;have u:=XI.send t (gT (a:=b) a i e (by omega)).1 (gT (a:=b) a i e (by omega)).2;exact(u.lead q a e).mono (by omega)
theorem AX.try{s d:Nat}(h:AX zs V)(i:XI zs V m)(f:s<zs.length)(x:d<6)(p:(V.nd s).l≠-2)(hm:m<1000000):AX zs (ei zs V s d (ci zs.length s (bN (V.nd s) d)))∧Mo zs V (ei zs V s d (ci zs.length s (bN (V.nd s) d))):=by
 have y:=bp i.he;have O:=gS (i.nd s f) x;have P:=lF zs.length s (bN (V.nd s) d) (by omega);have A:=wl (n:=zs.length) ⟨by omega,y.2.1⟩ f O.1;have a1:((stN (V.nd s) d).pr:Int)<=bN (V.nd s) d:=by
  unfold bN
  split
  ·exact Int.le_refl _
  ·exact Int.le_max_left _ _
 generalize ci zs.length s (bN (V.nd s) d)=b at P A
 by_cases q:1048576<b
 ·unfold ei
  rw[af q];exact⟨h,Mo.same i fun _ _=>rfl⟩
 ·have r:=iK (a:=b) f y.2.1 x (by omega)
  have B:=i.hear p r (by omega) f;have G:=fY (i.nd s f) p r (by omega:m<4000000000);have hex:=yc (f:=aH s d b) h.ex (i.nd s f) p r (by omega) f i;have H:∀a,a<6->∃g g',GX zs V a g∧GX zs (aQ V s (aH s d b)) a g'∧g'.val=g.val∧∀C,C∈ca s (V.nd s) (aH s d b)->C.d=(a:Int)->Fr zs (stD (aQ V s (aH s d b)) a) g' C:=fun a l=>by
   obtain⟨g,z⟩:=h.gx a l;obtain⟨g',k,-,D,E⟩:=xR z (i.nd s f) p r (by omega) f i.fr fun _=>pX (.inr rfl)
   exact⟨g,g',z,k,D,E⟩
  rcases kW (i.nd s f) p r (by omega)with⟨t,-⟩|⟨t,j,F⟩
  ·unfold ei
   rw[aa q,af t];exact⟨⟨fun a l=>by obtain⟨-,g',-,k,-⟩:=H a l;exact⟨g',k⟩,hex.1⟩,hex.2⟩
  ·have a2:FI zs.length j:=kj (i.nd s f) p r (by omega) rfl j (by rw[F];exact List.mem_singleton.2 rfl)
   have I:j∈ca s (V.nd s) (aH s d b):=by rw[F];exact List.mem_singleton.2 rfl
   have Q:j.d=(d:Int):=by
    have v:=I;unfold ca at v
    split at v
    ·rw[List.mem_singleton]at v;rw[v];rfl
    ·cases v
   rw[<-qV s d b j F q t];have R:((aQ V s (aH s d b)).nd s).l≠-2:=by
    rw[gU];unfold upN at t
    simpa using t
   have S:(oHN (V.nd s) (aH s d b)).c=0:=by
    have:=G.up;rw[t]at this;exact cK this.symm
   have a3:(stN ((aQ V s (aH s d b)).nd s) d).pr=b.toNat:=by
    rw[gU];have:=G.yes S;rw[show(aH s d b).d.toNat=d from aU d]at this;rw[this];unfold gHN aO;rw[aa (by show ¬((3:Int).toNat=1);decide),af (by show(3:Int).toNat=3;decide),af ?_]
    ·rfl
    ·show(stN (V.nd s) ((d:Int).toNat)).pr<b.toNat
     rw[aU];omega
   have T:=B.node (i:=s) ((B.nd s f).putLead (d:=d) (a:=b) (P:=P0) R (by omega) (by decide) (by decide) (rX _)) aj;have U:=XI.send T (gT (a:=b) f y.2.1 x (by omega)).1 (gT (a:=b) f y.2.1 x (by omega)).2;generalize a4:aQ V s (aH s d b)=c at *
   have J:∀e a,stN ((aW (aA c s (aC (c.nd s) d (b,P0))) (dw s d b zs.length)).nd e) a=stN (c.nd e) a:=fun e a=>jd c s d _ e a
   have w:((aW (aA c s (aC (c.nd s) d (b,P0))) (dw s d b zs.length)).nd s).ld d=some (b,P0):=by
    show((aA c s (aC (c.nd s) d (b,P0))).nd s).ld d=_;rw[eA,mG]
   have W:∀a,a<6->∃g',GX zs (aW (aA c s (aC (c.nd s) d (b,P0))) (dw s d b zs.length)) a g'∧(a=d->Fr zs (stD (aW (aA c s (aC (c.nd s) d (b,P0))) (dw s d b zs.length)) a) g' j):=fun a l=>by
    obtain⟨g,g',z,k,D,E⟩:=H a l;have X:stD (aW (aA c s (aC (c.nd s) d (b,P0))) (dw s d b zs.length)) a=stD c a:=funext fun e=>J e a
    refine⟨g',GX.send ?_ fun a5 q _=>pX (.inr ?_),fun n=>?_⟩
    ·by_cases n:a=d
     ·subst n
      refine k.newLead (afS (by omega) ?_ A ?_)
      ·rw[D]
       by_cases K:g.val b.toNat=0
       ·exact K
       ·have:=z.co.ow _ K (by omega)
        rw[A]at this;have a6:b.toNat<=(stN (V.nd s) a).pr:=this;omega
      ·show b.toNat<=(stN (c.nd s) a).pr
       omega
     ·exact k.other n
    ·unfold dw at q
     exact(jA (List.mem_of_mem_eraseIdx q)).1
    ·rw[X]
     exact E j I (by rw[Q,n])
   generalize Y:aW (aA c s (aC (c.nd s) d (b,P0))) (dw s d b zs.length)=o at *
   have Z:o.evs=c.evs:=by rw[<-Y];rfl
   have a0:∀e a,stN ((aW (dH zs o s d j) (dq zs o s d j)).nd e) a=stN (o.nd e) a:=fun e a=>by
    rw[(dV w).1];exact jd o s d _ e a
   have L:∀e a,stN ((aW (dH zs o s d j) (dq zs o s d j)).nd e) a=stN (c.nd e) a:=fun e a=>(a0 e a).trans (J e a)
   refine⟨⟨fun a l=>?_,hex.1.same L (by rw[(dV w).1];exact Z)⟩,hex.2.trans (Mo.same B L)⟩;obtain⟨g',k,k2⟩:=W a l;rw[(dV w).1,(dV w).2]
   by_cases n:a=d
   ·subst n
    obtain⟨g2,q1,q2⟩:=xU k i.he w (rX _) f U.fr (k2 rfl);exact⟨g2,q1.send fun M u _=>q2 M u⟩
   ·refine⟨g',(k.other n).send fun M u a7=>?_⟩
    exfalso
    cases N:(aL zs s d b P0 j).2 with
    | none=>rw[N]at u;cases u
    | some a8 =>
     rw[N]at u;have:=(jA u).2.2.2.2.2;omega
theorem XI.ticks{s d:Nat}(a:XI zs V m)(b:s<zs.length)(c:d<6)(f:(V.nd s).l≠-2)(h:m<1000000):XI zs (dy zs V s d) (m+7):=by
 have i:=(bp a.he).2.1;have e:=(a.nd s b).gd d c;unfold dy
 split
 ·exact a.mono (by omega)
 ·split
  ·have:=e.1
   have:=e.2.1;refine(XI.send a (kI b i c (by decide) (by unfold stN;omega) (by unfold stN;omega) _ aj) (by rw[eJ];omega)).mono (by omega)
  ·exact a.try b c f h
theorem AX.ticks{s d:Nat}(h:AX zs V)(b:XI zs V m)(c:s<zs.length)(i:d<6)(j:(V.nd s).l≠-2)(k:m<1000000):AX zs (dy zs V s d)∧Mo zs V (dy zs V s d):=by
 unfold dy
 split
 ·exact⟨h,Mo.same b fun _ _=>rfl⟩
 ·split
  ·refine⟨⟨fun a l=>?_,h.ex.same (fun _ _=>rfl) rfl⟩,Mo.same b fun _ _=>rfl⟩
   obtain⟨g,e⟩:=h.gx a l;refine⟨g,e.send fun n f q=>?_⟩;have r:=(jA f).2.2.2.2.2;have o:a=d:=by omega
   subst o;exact abK (fun p=>e.co.s2 s c (by show(stN (V.nd s) a).ph=2;omega)) (fun p=>e.co.s3 s c (by show(stN (V.nd s) a).ph=3;omega)) n f
  ·exact h.try b c i j k
theorem AX.tick{s:Nat}(b:s<zs.length):∀(k d:Nat) (V:PX) (m:Nat),d+k<=6->AX zs V->XI zs V m->(V.nd s).l≠-2->m+7*k<1000000->AX zs (dJ zs s k d V)∧Mo zs V (dJ zs s k d V)
 | 0,_,V,_,_,h,a,_,_=>⟨h,Mo.same a fun _ _=>rfl⟩
 | k+1,d,V,m,j,h,a,c,l=>by
  have h1:=h.ticks a b (d:=d) (by omega) c (by omega);have i:=a.ticks b (d:=d) (by omega) c (by omega);unfold dJ
  split
  ·rename_i e
   have f:=AX.tick b k (d+1) _ (m+7) (by omega) h1.1 i (by unfold upN at e;simpa using e) (by omega);exact⟨f.1,h1.2.trans f.2⟩
  ·exact h1
theorem AX.new:AX zs dM:=
 ⟨fun a f=>⟨_,Co.zero (fun b _=>by
   show(au (bQ 512).data.toList a).2.ph=0;rw[iA 512 a (by omega)];rfl),fun h c=>(by cases c),fun b i _ d=>(by cases d)⟩,⟨fun j e=>(by cases e),List.Pairwise.nil⟩⟩
end
def wtF(f:F9):Nat:=if f.k=1∨f.k=3∨f.k=5 then 2 else 1
def wtL(L:List F9):Nat:=(L.map wtF).sum
def fh(n:Nat):Option (Int×PL)->Nat
 | none=>0
 | some y=>if y.2.stt=0 then 3*n else if y.2.stt=1 then n else 0
def eu(g:Nat->Nat):Nat->Nat
 | 0=>0
 | k+1=>eu g k+g k
theorem mc{g h:Nat->Nat}:∀{k:Nat},(∀i,i<k->g i<=h i)->eu g k<=eu h k
 | 0,_=>aj
 | k+1,a=>Nat.add_le_add (mc fun i b=>a i (by omega)) (a k (by omega))
theorem mi{g h:Nat->Nat}{j a b:Nat}:∀{k:Nat},j<k->(∀i,i<k->i≠j->g i<=h i)->g j+a<=h j+b->eu g k+a<=eu h k+b
 | 0,d,_,_=>absurd d (Nat.not_lt_zero _)
 | k+1,d,c,f=>by
  show eu g k+g k+a<=eu h k+h k+b
  by_cases e:j=k
  ·subst e
   have:=mc (g:=g) (h:=h) (k:=j) fun i l=>c i (by omega) (by omega)
   omega
  ·have o:=mi (k:=k) (by omega) (fun i l m=>c i (by omega) m) f
   have p:=c k (by omega) (fun n=>e n.symm);omega
def cS(n:Nat)(N:PN):Nat:=eu (fun d=>fh n (N.ld d)) 6
def pot(zs:List Int)(V:PX):Nat:=wtL V.fly+eu (fun i=>cS zs.length (V.nd i)) zs.length
theorem fU(L M:List F9):wtL (L++M)=wtL L+wtL M:=by simp[wtL]
theorem ny:∀(L:List F9) (k:Nat) (f:F9),L[k]?=some f->wtL (L.eraseIdx k)+wtF f=wtL L
 | [],_,_,h=>by simp at h
 | g::r,0,f,h=>by
  obtain rfl:g=f:=by simpa using h
  simp[wtL];omega
 | g::r,k+1,f,h=>by
  have:=ny r k f (by simpa using h);simp[wtL]at this ⊢;omega
theorem nW(id:Nat)(deal kind att ph:Int)(n:Nat):wtL (toL id deal kind att ph n)=n*(if kind=1∨kind=3∨kind=5 then 2 else 1):=by
 induction n with
 | zero=>simp[toL,wtL]
 | succ n a =>
  rw[toL,fU,a,Nat.succ_mul];rfl
section
variable {zs:List Int} {V:PX} {m:Nat}
theorem vU{i:Nat}{d att:Int}{P:PL}{f:F9}(n:Nat)(s:zs.length=n):fh n (some (att,(aL zs i d att P f).1))+wtL (dm i d att n (aL zs i d att P f).2)<=fh n (some (att,P)):=by
 have key:∀b:PL×Option (Int×Int),(b.2=none∧(b.1.stt=P.stt∨2<=b.1.stt))∨(∃e,b.2=some (7,e)∧b.1.stt=2∧P.stt<=1)∨(∃e,b.2=some (5,e)∧b.1.stt=1∧P.stt=0)->fh n (some (att,b.1))+wtL (dm i d att n b.2)<=fh n (some (att,P)):=by
  rintro⟨j,t⟩ (⟨c,a⟩|⟨e,c,a,l⟩|⟨e,c,a,l⟩)
  ·simp only at c a
   subst c;show fh n (some (att,j))+0<=_;unfold fh;simp only;rcases a with a|a
   ·rw[a];exact aj
   ·rw[aa (by omega),aa (by omega)];exact Nat.zero_le _
  ·simp only at c a
   subst c;show fh n (some (att,j))+wtL (toL i d 7 att e n)<=_;rw[nW,aa (by decide)];unfold fh;simp only;rw[a,aa (by decide),aa (by decide)];have:P.stt=0∨P.stt=1:=by omega
   rcases this with o|o<;>rw[o]<;>simp<;>omega
  ·simp only at c a
   subst c;show fh n (some (att,j))+wtL (toL i d 5 att e n)<=_;rw[nW,af (by decide)];unfold fh;simp only;rw[a,l,aa (by decide),af rfl,af rfl];omega
 refine key _ ?_;unfold aL
 by_cases k:ek zs.length i d att P f=true
 ·rw[af k]
  obtain⟨-,q,-,-⟩:=iC k;obtain⟨r,-,-,-⟩:=jn (cP P f) f.pr;have p:(dI (cP P f) f.pr).stt=P.stt:=r;unfold cO;rcases acr q with⟨g,h,-⟩|⟨g,h,-⟩|⟨g,h⟩
  ·rw[af g]
   unfold gh
   split
   ·exact .inr (.inl ⟨3,rfl,rfl,by omega⟩)
   ·split
    ·exact .inr (.inr ⟨4,rfl,rfl,h⟩)
    ·exact .inl ⟨rfl,.inl rfl⟩
  ·rw[aa (by omega)]
   split
   ·exact .inl ⟨rfl,.inr (by show 2<=3;decide)⟩
   ·first|rw[af g]|skip
    unfold gj
    split
    ·exact .inl ⟨rfl,.inl p⟩
    ·split
     ·exact .inr (.inl ⟨_,rfl,rfl,by omega⟩)
     ·exact .inr (.inr ⟨_,rfl,rfl,h⟩)
  ·rw[aa (by omega)]
   split
   ·exact .inl ⟨rfl,.inr (by show 2<=3;decide)⟩
   ·first|rw[aa (show ¬f.k=4 by omega)]|skip
    unfold im
    split
    ·exact .inl ⟨rfl,.inl p⟩
    ·exact .inr (.inl ⟨_,rfl,rfl,by omega⟩)
 ·rw[aa k]
  exact .inl ⟨rfl,.inl rfl⟩
theorem yn(f:F9):1<=wtF f:=by unfold wtF;split<;>omega
theorem aha{i:Nat}{N:PN}{f:F9}:wtL (ca i N f)+1<=wtF f:=by
 unfold ca
 split
 ·rename_i n
  have o:=n.2;have p:∀e a d b c,(aO e a d b c).k≠0->(d=1∧(aO e a d b c).k=2)∨(d=3∧(aO e a d b c).k=4)∨(d=5∧(aO e a d b c).k=6):=by
   intro e a d b c;unfold aO
   repeat' split
   all_goals simp
   all_goals assumption
  have:=p _ _ _ _ _ o;have q:wtF f=2:=by
   unfold wtF;rw[af];omega
  have r:∀b h j:Int,∀k:Bool,∀c l a:Int,((gHN N f).k=2∨(gHN N f).k=4∨(gHN N f).k=6)->wtL [⟨b,h,j,(gHN N f).k,f.a,k,c,l,a⟩]=1:=by
   intro b h j k c l a s;show wtF ⟨b,h,j,(gHN N f).k,f.a,k,c,l,a⟩+0=1;unfold wtF;rw[aa];show ¬(((gHN N f).k:Int)=1∨((gHN N f).k:Int)=3∨((gHN N f).k:Int)=5);omega
  rw[r _ _ _ _ _ _ _ (by rcases this with g|g|g;exact .inl g.2;exact .inr (.inl g.2);exact .inr (.inr g.2)),q]
  exact aj
 ·have:=yn f
  show 0+1<=_;omega
theorem vK(N:PN)(f:F9)(n:Nat):cS n (aM N f)<=cS n N:=by
 unfold cS;refine mc fun a _=>?_
 unfold aM
 split
 ·exact Nat.zero_le _
 ·exact aj
theorem pf{k:Nat}{f:F9}(j:XI zs V m)(i:V.fly[k]?=some f):pot zs (aX zs V k f)+1<=pot zs V:=by
 have l:f∈V.fly:=List.mem_iff_getElem?.2 ⟨k,i⟩;have e:=j.fr f l;have n:f.t.toNat<zs.length:=by have:=e.t0;have:=e.t1;omega
 have q:0<=f.d∧f.d<=5:=e.ok.2.2.1;have r:=ny V.fly k f i;have s:=yn f;unfold aX
 split
 ·unfold de cX
  split
  ·cases c:((ay V k).nd f.t.toNat).ld f.d.toNat with
   | none =>
    rw[(hZ c).1,(hZ c).2,iE];show wtL (V.fly.eraseIdx k)+eu (fun a=>cS zs.length (V.nd a)) zs.length+1<=wtL V.fly+eu (fun a=>cS zs.length (V.nd a)) zs.length;omega
   | some b =>
    rw[(dV c).1,(dV c).2];have o:=vU (zs:=zs) (i:=f.t.toNat) (d:=(f.d.toNat:Int)) (att:=b.1) (P:=b.2) (f:=f) zs.length rfl;show wtL (V.fly.eraseIdx k++dm f.t.toNat f.d.toNat b.1 zs.length (aL zs f.t.toNat f.d.toNat b.1 b.2 f).2)+eu (fun a=>cS zs.length ((aA (ay V k) f.t.toNat (aC ((ay V k).nd f.t.toNat) f.d.toNat (b.1,(aL zs f.t.toNat f.d.toNat b.1 b.2 f).1))).nd a)) zs.length+1<=wtL V.fly+eu (fun a=>cS zs.length (V.nd a)) zs.length;rw[fU];generalize (aL zs f.t.toNat f.d.toNat b.1 b.2 f)=d at *
    have p:=mi (g:=fun a=>cS zs.length ((aA (ay V k) f.t.toNat (aC ((ay V k).nd f.t.toNat) f.d.toNat (b.1,d.1))).nd a)) (h:=fun a=>cS zs.length (V.nd a)) (j:=f.t.toNat) (a:=wtL (dm f.t.toNat f.d.toNat b.1 zs.length d.2)) (b:=0) n
     (fun a _ g=>by show cS _ _<=cS _ _;rw[fE _ _ _ g];exact aj) (by
      show cS zs.length ((aA (ay V k) f.t.toNat (aC ((ay V k).nd f.t.toNat) f.d.toNat (b.1,d.1))).nd f.t.toNat)+_<=cS zs.length (V.nd f.t.toNat)+0;rw[eA];unfold cS;refine mi (j:=f.d.toNat) (by omega) (fun h _ g=>by show fh _ _<=fh _ _;rw[aag _ _ _ g];exact aj) ?_;show fh zs.length ((aC ((ay V k).nd f.t.toNat) f.d.toNat (b.1,d.1)).ld f.d.toNat)+_<=fh zs.length ((V.nd f.t.toNat).ld f.d.toNat)+0;rw[mG,show(V.nd f.t.toNat).ld f.d.toNat=some b from c];exact o)
    omega
  ·have t:=aha (i:=f.t.toNat) (N:=(ay V k).nd f.t.toNat) (f:=f)
   show wtL (V.fly.eraseIdx k++ca f.t.toNat ((ay V k).nd f.t.toNat) f)+eu (fun a=>cS zs.length ((aA (ay V k) f.t.toNat (aM ((ay V k).nd f.t.toNat) f)).nd a)) zs.length+1<=wtL V.fly+eu (fun a=>cS zs.length (V.nd a)) zs.length;rw[fU];have p:=mc (g:=fun a=>cS zs.length ((aA (ay V k) f.t.toNat (aM ((ay V k).nd f.t.toNat) f)).nd a)) (h:=fun a=>cS zs.length (V.nd a)) (k:=zs.length) (fun a _=>by
    show cS _ _<=cS _ _
    by_cases h:a=f.t.toNat
    ·subst h;rw[eA];exact vK _ _ _
    ·rw[fE _ _ _ h];exact aj)
   omega
 ·show wtL (V.fly.eraseIdx k)+eu (fun a=>cS zs.length (V.nd a)) zs.length+1<=wtL V.fly+eu (fun a=>cS zs.length (V.nd a)) zs.length
  omega
end
def Stp(zs:List Int)(V V':PX):Prop:=
 V'=V∨(∃s d:Nat,s<zs.length∧d<6∧eO zs.length V (s:Int) (d:Int)=0∧V'=dP zs V s d)∨(∃s d,s<zs.length∧upN (V.nd s)=true∧V'=lZ V s d)∨(∃s,s<zs.length∧upN (V.nd s)=true∧V'=dJ zs s 6 0 V) ∨
 (∃s,s<zs.length∧upN (V.nd s)=true∧V'=oI V s)∨(∃s,s<zs.length∧upN (V.nd s)=false∧V'=upX V s)∨(∃k,V'=ay V k)∨(∃k f,f∈V.fly∧V'=ik V k f)∨(∃a b x,V'=eH V a b x)∨(∃s n,s<zs.length∧V'=mP V s n)∨(∃k f,V.fly[k]?=some f∧V'=aX zs V k f)
section
variable {zs:List Int} {V:PX}
theorem Stp.same:Stp zs V V:=.inl rfl
theorem Stp.begin(s d:Nat)(a:s<zs.length)(b:d<6)(c:eO zs.length V s d=0):Stp zs V (dP zs V s d):=.inr (.inl ⟨s,d,a,b,c,rfl⟩)
theorem Stp.refuse(s d:Nat)(a:s<zs.length)(b:upN (V.nd s)=true):Stp zs V (lZ V s d):=.inr (.inr (.inl ⟨s,d,a,b,rfl⟩))
theorem Stp.tick(s:Nat)(a:s<zs.length)(b:upN (V.nd s)=true):Stp zs V (dJ zs s 6 0 V):=.inr (.inr (.inr (.inl ⟨s,a,b,rfl⟩)))
theorem Stp.down(s:Nat)(a:s<zs.length)(b:upN (V.nd s)=true):Stp zs V (oI V s):=.inr (.inr (.inr (.inr (.inl ⟨s,a,b,rfl⟩))))
theorem Stp.wake(s:Nat)(a:s<zs.length)(b:upN (V.nd s)=false):Stp zs V (upX V s):=.inr (.inr (.inr (.inr (.inr (.inl ⟨s,a,b,rfl⟩)))))
theorem Stp.take(k:Nat):Stp zs V (ay V k):=.inr (.inr (.inr (.inr (.inr (.inr (.inl ⟨k,rfl⟩))))))
theorem Stp.twice(k:Nat)(f:F9)(a:f∈V.fly):Stp zs V (ik V k f):=.inr (.inr (.inr (.inr (.inr (.inr (.inr (.inl ⟨k,f,a,rfl⟩)))))))
theorem Stp.link(a b:Nat)(x:Bool):Stp zs V (eH V a b x):=.inr (.inr (.inr (.inr (.inr (.inr (.inr (.inr (.inl ⟨a,b,x,rfl⟩))))))))
theorem Stp.cut(s:Nat)(n:Int)(a:s<zs.length):Stp zs V (mP V s n):=.inr (.inr (.inr (.inr (.inr (.inr (.inr (.inr (.inr (.inl ⟨s,n,a,rfl⟩)))))))))
theorem Stp.deliver(k:Nat)(f:F9)(a:V.fly[k]?=some f):Stp zs V (aX zs V k f):=.inr (.inr (.inr (.inr (.inr (.inr (.inr (.inr (.inr (.inr ⟨k,f,a,rfl⟩)))))))))
end
theorem iB{V:PX}{s:Nat}{N:PN}(b:∀d,stN N d=stN (V.nd s) d):∀i d,stN ((aA V s N).nd i) d=stN (V.nd i) d:=by
 intro i d
 by_cases a:i=s
 ·subst a;rw[eA];exact b d
 ·rw[fE _ _ _ a]
theorem oM{V:PX}{s:Nat}{N:PN}(b:∀d x,N.ld d=some x->(V.nd s).ld d=some x):∀i d x,((aA V s N).nd i).ld d=some x->(V.nd i).ld d=some x:=by
 intro i d x
 by_cases a:i=s
 ·subst a;rw[eA];exact b d x
 ·rw[fE _ _ _ a];exact id
theorem Stp.ax{zs:List Int}{V l:PX}{m:Nat}(h:Stp zs V l)(c:AX zs V)(d:XI zs V m)(v:m<900000):AX zs l∧Mo zs V l:=by
 rcases h with rfl|⟨b,e,i,w,x,rfl⟩|⟨b,e,i,k,rfl⟩|⟨b,i,k,rfl⟩|⟨b,i,k,rfl⟩|⟨b,i,k,rfl⟩|⟨j,rfl⟩|⟨j,n,o,rfl⟩|⟨y,z,f,rfl⟩|⟨b,p,i,rfl⟩|⟨j,n,q,rfl⟩
 ·exact⟨c,Mo.same d fun _ _=>rfl⟩
 ·exact c.begin d
 ·exact⟨c.quiet (iB fun _=>rfl) (fun g r f _=>oM (V:=V) (s:=b) (N:={ V.nd b with R:=my (V.nd b).R e }) (fun _ _ a=>a) g r f) (fun _ a=>a) rfl,Mo.same d (iB fun _=>rfl)⟩
 ·exact AX.tick i 6 0 V m (by decide) c d (by unfold upN at k;simpa using k) (by omega)
 ·exact⟨c.quiet (iB fun _=>rfl) (fun g e f _=>oM (fun _ _ a=>by cases a) g e f) (fun _ a=>a) rfl,Mo.same d (iB fun _=>rfl)⟩
 ·exact⟨c.quiet (iB fun _=>rfl) (fun g e f _=>oM (V:=V) (s:=b) (N:={ V.nd b with l:=-1,over:=false,R:=fun _=>false }) (fun _ _ a=>a) g e f) (fun _ a=>a) rfl,Mo.same d (iB fun _=>rfl)⟩
 ·exact⟨c.take j,Mo.same d fun _ _=>rfl⟩
 ·
  refine⟨c.quiet (fun _ _=>rfl) (fun _ _ _ _ a=>a) (fun s t=>?_) rfl,Mo.same d fun _ _=>rfl⟩;have u:s∈V.fly.take j++n::V.fly.drop j:=t;rcases List.mem_append.1 u with a|a
  ·exact List.mem_of_mem_take a
  ·rcases List.mem_cons.1 a with rfl|a
   ·exact o
   ·exact List.mem_of_mem_drop a
 ·exact⟨c.quiet (fun _ _=>rfl) (fun _ _ _ _ a=>a) (fun _ a=>a) rfl,Mo.same d fun _ _=>rfl⟩
 ·exact⟨c.quiet (iB fun _=>rfl) (fun g e f _=>oM (V:=V) (s:=b) (N:={ V.nd b with l:=cL (V.nd b).l p }) (fun _ _ a=>a) g e f) (fun _ a=>a) rfl,Mo.same d (iB fun _=>rfl)⟩
 ·exact c.deliver d (by omega) (List.mem_iff_getElem?.2 ⟨j,q⟩)
section
variable {w0 w:World} {C:Nat→Nat} {X:XB} {m:Nat} {zs:List Int} {V:PX} {A:Nat→Addr}
theorem wM(h:WD w0 w C X zs V m):Calls prog 67 #[.pointer (some ⟨X.xb,0,none⟩)] w fun e w'=>e=.returned (.int .i64 (V.fly.length:Int))∧w'=w:=by
 obtain⟨-,-,-,b,-⟩:=h.cells;obtain⟨c,cap,a⟩:=h.fly.form;rw[a]at b;clear h a
 go_enter func67,ntmps67
 go_wp2_with fail
 go_ret
 exact⟨rfl,rfl⟩
end
end Go.Proofs.YtaehdgemkafinaaGreatDoor
