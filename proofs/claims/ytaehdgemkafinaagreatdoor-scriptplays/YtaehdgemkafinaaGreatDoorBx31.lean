/-
  On the way to SPlaysProof: VW VX.
-/
import Derived.Test.YtaehdgemkafinaaGreatDoorBx28
set_option maxHeartbeats 8000000
set_option maxRecDepth 100000
namespace Go.Proofs.YtaehdgemkafinaaGreatDoor
open Go.RowKit
open Go.Proofs.Tryz
section
variable {w0 w w':World} {C C':Nat→Nat} {K:NB} {X:XB} {i m m':Nat} {zs:List Int} {N:PN} {V V':PX} {A:Nat→Addr}
theorem ri(n:Int)(h:-9223372036854775808<=n∧n<=9223372036854775807):wrap64 n=n:=by unfold wrap64;omega
theorem ry(d p:Nat)(h:ND w0 w C K i zs N m)(b:d<6)(c:(stN N d).pr=p):Calls prog 163 #[.pointer (some ⟨K.nd,0,none⟩),.int .i64 (d:Int),.int .i64 (p:Int)] w fun e w'=>e=.returned (.int .i64 (bN N d))∧w'=w:=by
 have f:=h.lead b
 cases a:N.ld d with
 | none =>
  rw[kJ a]at f;have e:bN N d=(p:Int):=by unfold bN;rw[a,c]
  rw[e];clear h e a
  go_enter func163,ntmps163
  go_wp2_with fail
  go_ret
  exact⟨rfl,rfl⟩
 | some g =>
  rw[mx a]at f;have e:bN N d=max (p:Int) g.2.seen:=by unfold bN;rw[a,c]
  rw[e];have j:=hid (h.lds d b g a);clear h e a
  go_enter func163,ntmps163
  go_wp2_with fail
  refine(zY j).mono ?_;rintro e k ⟨rfl,l⟩;subst k
  go_wp2_with fail
  go_ret
  exact⟨rfl,rfl⟩
theorem mt(s:Nat)(a:Int)(h:WD w0 w C X zs V m)(f:s<zs.length)(h0:0<=a)(h1:a<=1048576):Calls prog 162 #[.pointer (some ⟨X.xb,0,none⟩),.int .i64 (s:Int),.int .i64 a] w fun e w'=>e=.returned (.int .i64 (ci zs.length s a))∧w'=w:=by
 obtain⟨-,g,-,-,-⟩:=h.cells;have j:=h.n7;obtain⟨b,c⟩:∃b,zs.length=b:=⟨_,rfl⟩;rw[c]at g j f ⊢;clear h c
 go_enter func162,ntmps162
 go_wp2_with fail
 go_ret
 refine⟨?_,rfl⟩;have d:(0:Int)<b:=by omega
 have o:=Int.emod_nonneg (a+1) (show(b:Int)≠0 by omega);have p:=Int.emod_lt_of_pos (a+1) d;have k:wrap64 ((s:Int)+b-(a+1)%b)=(s:Int)+b-(a+1)%b:=ri _ (by omega);have l:((s:Int)+b-(a+1)%b).tmod b=((s:Int)+b-(a+1)%b)%b:=Int.tmod_eq_emod_of_nonneg (by omega);have q:=Int.emod_nonneg ((s:Int)+b-(a+1)%b) (show(b:Int)≠0 by omega);have r:=Int.emod_lt_of_pos ((s:Int)+b-(a+1)%b) d;have n:wrap64 (a+1+(wrap64 ((s:Int)+b-(a+1)%b)).tmod b)=ci b s a:=by
  rw[k,l,ri _ (by omega)];rfl
 show Ending.returned (Value.int IntKind.i64 (wrap64 (a+1+(wrap64 ((s:Int)+b-(a+1)%b)).tmod b)))=_;rw[n]
theorem lF(n s:Nat)(a:Int)(c:0<n):a+1<=ci n s a∧ci n s a<=a+n:=by
 unfold ci;have b:(0:Int)<n:=by omega
 have d:=Int.emod_nonneg ((s:Int)+n-(a+1)%n) (show(n:Int)≠0 by omega);have e:=Int.emod_lt_of_pos ((s:Int)+n-(a+1)%n) b;omega
end
theorem ac3(A:Nat->Addr)(v:Value)(zs:List Int)(id:Nat)(deal att:Int)(w:World)(c:IsSl w v zs)(a:Held3 w A)(d:bT zs=0)(f:id<zs.length)(h0:0<=deal)(h1:deal<6)(l:1048576<att):Calls prog 164 #[.int .i64 (id:Int),.int .i64 deal,v,.int .i64 att] w fun e w'=>e=.returned (.tuple #[.pointer none,.iface 318 (.pointer (some (A 1)))])∧Below w.heap.size w w':=by
 have g:=hid (mh A v zs id deal att w c a d f h0 h1);have h:w.cell? ⟨0,0,none⟩=some (.iface 318 (.pointer (some (A 1)))):=a 1 (by omega) (by omega);obtain⟨m,n,rfl,-,-,-⟩:=c;have o:¬att<1:=by omega
 clear a d
 go_enter func164,ntmps164
 go_wp2_with fail
 refine g.mono ?_;rintro e p ⟨q,r,cap,rfl,i,b,j⟩;have k:=hid b;have s:=ag b h;clear i b j
 go_wp2_with fail
 go_quiet (fail)
 go_wp2
 go_ret2
 exact⟨rfl,aJ k _⟩
section
variable {w0 w w':World} {C C':Nat→Nat} {K:NB} {X:XB} {i m m':Nat} {zs:List Int} {N:PN} {V V':PX} {A:Nat→Addr}
theorem ND.recolor(h:ND w0 w C K i zs N m)(o:i<=9)(a:∀x,C x<2000->C' x=C x):ND w0 w C' K i zs N m:=by
 have c:=h.cs;have d:=h.cj;have e:=h.cm;have f:=h.cp;have g:=h.cq;have j:=h.cn;refine⟨h.row,h.sp,h.lds,(a _ (by omega)).trans j,(a _ (by omega)).trans c,(a _ (by omega)).trans d,(a _ (by omega)).trans e,(a _ (by omega)).trans f,(a _ (by omega)).trans g,fun k l x n=>?_,h.n0⟩;have b:=h.cl k l x n;exact⟨(a _ (by omega)).trans b.1,(a _ (by omega)).trans b.2⟩
theorem WD.recolor(h:WD w0 w C X zs V m)(a:∀x,C x<2000->C' x=C x)(d:∀x,C' x<2000->x<w.heap.size)(e:∀x,C' x<2000->w0.heap.size<=x):WD w0 w C' X zs V m:=by
 have n:=h.n7.2;have f:=h.cx;have g:=h.cw;have j:=h.cn;have k:=h.cm;exact⟨h.bel,h.row,h.ws,h.ns,fun i l=>(h.nds i l).recolor (by omega) a,h.brk,h.fly,h.evs,(a _ (by omega)).trans f,(a _ (by omega)).trans g,(a _ (by omega)).trans j,(a _ (by omega)).trans k,fun b c=>(a b (by have:=h.cf b c;omega)).trans (h.cf b c),fun b c=>(a b (by have:=h.ce b c;omega)).trans (h.ce b c),d,e,h.inv⟩
theorem WD.adopt{d lb b cap:Nat}{a:Int}{P:PL}(h:WD w0 w C X zs V m)(j:i<zs.length)(s:d<6)(t:(V.nd i).l≠-2)(k:LD w lb b cap i d a zs P)(G:2000<=C lb)(H:2000<=C b)(h0:w0.heap.size<=b)(u:0<=a∧a<=1048576)(h1:P.stt<4)(v:0<=P.seen∧P.seen<=1048576):∃C',WD w0 (w.setCell ⟨(X.K i).nd,1+d,none⟩ (.pointer (some ⟨lb,0,none⟩))) C' { X with K:=fun e=>if e=i then fF (X.K i) d lb b cap else X.K e } zs (aA V i (aC (V.nd i) d (a,P))) m∧Kept (di C) w (w.setCell ⟨(X.K i).nd,1+d,none⟩ (.pointer (some ⟨lb,0,none⟩)))∧(∀x,x≠lb->x≠b->C' x=C x):=by
 have I:=h.n7.2;have J:=k.bl;have y:=ah k.row;obtain⟨g,p⟩:∃g,g=bV (bV C lb (100*i+10+d)) b (100*i+20+d):=⟨_,rfl⟩;have q:∀x,x≠lb->x≠b->g x=C x:=fun x l n=>by rw[p,aq n,aq l]
 have z:g lb=100*i+10+d:=by rw[p,aq (by omega),bw]
 have B:g b=100*i+20+d:=by rw[p,bw]
 have D:∀x,C x<2000->g x=C x:=fun x c=>q x (fun e=>by rw[e]at c;omega) (fun e=>by rw[e]at c;omega)
 have r:∀x,g x<2000->C x<2000∨x=lb∨x=b:=fun x c=>by
  by_cases l:x=lb
  ·exact .inr (.inl l)
  ·by_cases n:x=b
   ·exact .inr (.inr n)
   ·rw[q x l n]at c;exact .inl c
 have o:=h.recolor (C':=g) D (fun x c=>by
   rcases r x c with f|f|f
   ·exact h.lt x f
   ·rw[f];exact y
   ·rw[f];omega) (fun x c=>by
   rcases r x c with f|f|f
   ·exact h.low x f
   ·rw[f];omega
   ·rw[f];exact h0)
 have L:=(h.nds i j).cn;have M:=(o.nds i j).cn;have E:=(h.inv.nd i j).putLead (d:=d) t u h1 v k.pw;refine⟨g,?_,(Kept.refl _ w).setCell (show C (X.K i).nd<2000 by omega) _,q⟩;exact o.node (S:=In1 (X.K i).nd) ((Kept.refl _ w).set1 _ _) j (fun x c=>by rw[show x=_ from c];omega) (fun _ _=>rfl) (fun x c F=>by have:=o.lt x F;omega) ((o.nds i j).putLead s k z B (h.nds i j).n0) rfl aj (h.inv.node E aj)
theorem gS{n d:Nat}(h:NI n N m)(a:d<6):0<=bN N d∧bN N d<=1048576:=by
 have e:=(h.gd d a).2.1;have f:(stN N d).pr=(dlN N d).2.pr:=rfl;unfold bN
 cases b:N.ld d with
 | none=>simp only;omega
 | some c =>
  have:=(h.ld d c b).2.2.2.1;simp only;omega
theorem iK{n s d:Nat}{a:Int}(c:s<n)(e:n<=7)(f:d<6)(b:0<=a∧a<=1048576):FI n (aH s d a):=by
 refine⟨by show(0:Int)<=s;omega,by show(s:Int)<n;omega,by show(0:Int)<=s;omega,by show(s:Int)<n;omega,⟨?_,?_,?_,?_,b,⟨?_,?_,?_⟩⟩⟩
 ·show(0:Int)<=s∧(s:Int)<=6;omega
 ·show(0:Int)<=s∧(s:Int)<=6;omega
 ·show(0:Int)<=d∧(d:Int)<=5;omega
 ·show(1:Int)<=3∧(3:Int)<=7;omega
 ·show(0:Int)<=0∧(0:Int)<=5;omega
 ·show(0:Int)<=0∧(0:Int)<=1048576;omega
 ·show(0:Int)<=0∧(0:Int)<=1048576;omega
theorem gT{n s d:Nat}{a:Int}(b:s<n)(c:n<=7)(e:d<6)(g:0<=a∧a<=1048576):(∀f,f∈dw s d a n->FI n f)∧(dw s d a n).length<=1000:=by
 unfold dw;refine⟨fun f h=>kI b c e (by decide) g (by decide) n aj f (List.mem_of_mem_eraseIdx h),?_⟩;have:=List.length_eraseIdx_le (toL s d 3 a 0 n) s;rw[eJ]at this;omega
theorem gU(V:PX)(i:Nat)(f:F9):(aQ V i f).nd i=aM (V.nd i) f:=by
 unfold aQ aA;simp
theorem ahm(s d p:Nat)(h:WD w0 w C X zs V m)(j:Held9 w0 A)(a:s<zs.length)(o:d<6)(k:(stN (V.nd s) d).pr=p)(b:1048576<ci zs.length s (bN (V.nd s) d)):Calls prog 111 #[.pointer (some ⟨X.xb,0,none⟩),.int .i64 (s:Int),.int .i64 (d:Int),.int .i64 (p:Int)] w fun e w'=>e=.returned (.tuple #[])∧Below w.heap.size w w':=by
 obtain⟨t,u,-,-,-⟩:=h.cells;have D:=h.ns s a;have v:=h.n7;have E:=hid h;have F:=hid j;have G:=hid a;have H:=hid k;have l:=gS (h.inv.nd s a) o;obtain⟨n,x⟩:=nmd (zs.length);have c:=hid (mt s (bN (V.nd s) d) h a l.1 l.2);have q:=hid (ry d p (h.nds s a) o k);have f:=hid (ac3 A _ zs s (d:Int) _ w h.sl (h.held j).to3 h.inv.he a (by omega) (by omega) b);rw[x.out]at t u a c f b v;generalize bN (V.nd s) d=y at c q f b l;generalize ci n s y=at_ at c f b;clear h j k
 go_enter func111,ntmps111
 go_wp2_with fail
 refine q.mono ?_;rintro e g ⟨rfl,z⟩;subst g
 go_wp2_with fail
 refine c.mono ?_;rintro e g ⟨rfl,z⟩;subst g
 go_wp2_with fail
 refine f.mono ?_;rintro e g ⟨rfl,r⟩;have B:=hid r;clear r
 go_wp2_with fail
 refine bh (results_none rfl _ _ _) rfl ?_;exact⟨rfl,B⟩
theorem FrF.adopt{base:Nat}{v:Value}{L:List F9}(h:FrF w C base v L)(k:Kept (di C) w w')(a:∀x,base<=x->C' x=C x):FrF w' C' base v L:=by
 obtain⟨b,cap,c,d,e⟩:=h.kept (C':=C) k (fun _ _=>rfl);exact⟨b,cap,c,d,fun f g j=>by have:=e f g j;exact⟨by rw[a _ this.2.2];exact this.1,this.2⟩⟩
theorem aeU(s d p a:Nat)(h:WD w0 w C X zs V m)(k:Held9 w0 A)(b:s<zs.length)(l:d<6)(y:(V.nd s).l≠-2)(P:m<1000000)(z:(stN (V.nd s) d).pr=p)(n:ci zs.length s (bN (V.nd s) d)=a)(a3:1<=a)(a4:a<=1048576)(B:upN (aM (V.nd s) (aH s d a))=false)(Q:Hid (ca s (V.nd s) (aH s d a)=[])):Calls prog 111 #[.pointer (some ⟨X.xb,0,none⟩),.int .i64 (s:Int),.int .i64 (d:Int),.int .i64 (p:Int)] w fun e w'=>e=.returned (.tuple #[])∧WOut w0 w w' C X zs (aQ V s (aH s d a)) (m+2):=by
 have R:=hid B;clear B;obtain⟨S,T,-,-,-⟩:=h.cells;have c2:=h.ns s b;have D:=h.n7;have o:=hid h;have U:=hid k;have q:=hid b;have W:=hid y;have r:=gS (h.inv.nd s b) l;obtain⟨E,Y⟩:=nmd (zs.length);have t:=hid (mt s (bN (V.nd s) d) h b r.1 r.2);rw[n]at t;have F:=hid (ry d p (h.nds s b) l z);have G:=hid (uy A _ zs s (d:Int) (a:Int) w h.sl (h.held k).to3 h.inv.he b (by omega) (by omega) (by omega) (by omega));have Z:=hid (iK (a:=(a:Int)) b D.2 l (by omega));rw[Y.out]at S T b G D;generalize bN (V.nd s) d=ab at t F r n;clear h k z y n
 go_enter func111,ntmps111
 go_wp2_with fail
 refine F.mono ?_;rintro e f ⟨rfl,H⟩;subst f
 go_wp2_with fail
 refine t.mono ?_;rintro e f ⟨rfl,H⟩;subst f
 go_wp2_with fail
 refine G.mono ?_;rintro e f ⟨I,J,cap,rfl,u,v,a5⟩;have H1:=hid (o.later v);have a6:=hid u;have a0:=hid v;have a7:=u.bl;have a8:Hid (2000<=C I∧2000<=C J):=by
  constructor
  ·rcases bU (C I) 2000 with c|c
   ·have:=o.lt _ c;omega
   ·exact c
  ·rcases bU (C J) 2000 with c|c
   ·have:=o.lt _ c;omega
   ·exact c
 have L:=hid (np s d 3 a 0 0 0 false (aH s d a) rfl H1 U q W Z P);rw[show((3:Nat):Int)=3 from rfl,show((0:Nat):Int)=0 from rfl,Q.out]at L;clear u v
 go_wp2_with fail
 refine L.mono ?_;rintro e w2 ⟨a9,rfl,C2,X2,g,x,M,O,-⟩;obtain⟨d0,d1,d2⟩:=(g.nds s q).way;rw[iN x]at d0;have a1:=hid (g.nds s q).sp.jp.pl;have a2:Hid ((((aQ V s (aH s d a)).nd s).l != -2)=false):=by rw[gU];exact R
 have j:=hid (And.intro g (And.intro x (And.intro M O)));clear g x M O
 go_wp2_with fail
 refine(fK _ _ _ _ false w2 a1 a2).mono ?_;rintro e w3 ⟨rfl,H⟩;subst w3
 go_wp2_with fail
 refine bh (results_none rfl _ _ _) rfl ?_;refine⟨rfl,?_⟩;exact WOut.step (C1:=C) (X1:=X) rfl (Kept.of_below a0) (fun _ _=>rfl) ⟨C2,X2,j.1,j.2.1,j.2.2.1,j.2.2.2⟩
theorem qV(s d:Nat)(a:Int)(b:F9)(h:ca s (V.nd s) (aH s d a)=[b])(j:¬1048576<a)(k:upN (aM (V.nd s) (aH s d a))=true):aW (dH zs (aW (aA (aQ V s (aH s d a)) s (aC ((aQ V s (aH s d a)).nd s) d (a,P0))) (dw s d a zs.length)) s d b) (dq zs (aW (aA (aQ V s (aH s d a)) s (aC ((aQ V s (aH s d a)).nd s) d (a,P0))) (dw s d a zs.length)) s d b)=ei zs V s d a:=by
 have g:((aW (aA (aQ V s (aH s d a)) s (aC ((aQ V s (aH s d a)).nd s) d (a,P0))) (dw s d a zs.length)).nd s).ld d=some (a,P0):=by
  simp[aW,aA,aC]
 have l:∀c:PX,(c.nd s).ld d=some (a,P0)->dH zs c s d b=aA c s (aC (c.nd s) d (a,(aL zs s d a P0 b).1)):=fun c f=>by unfold dH;rw[f]
 have n:∀c:PX,(c.nd s).ld d=some (a,P0)->dq zs c s d b=dm s d a zs.length (aL zs s d a P0 b).2:=fun c f=>by unfold dq;rw[f]
 rw[l _ g,n _ g];unfold ei;rw[aa j,aa (by rw[k];decide),h,gU];have o:∀N:PN,aC (aC N d (a,P0)) d (a,(aL zs s d a P0 b).1)=aC N d (a,(aL zs s d a P0 b).1):=fun N=>by
  unfold aC;simp only
  congr 1
  funext e
  split<;>rfl
 unfold aW aA fP fP dw vp;simp only[if_true,o,List.append_nil,List.append_assoc]
 congr 1
 funext e
 split<;>rfl
theorem ahZ(s d p a:Nat)(B:F9)(h:WD w0 w C X zs V m)(hE:Held9 w0 A)(v:s<zs.length)(g:d<6)(hu:(V.nd s).l≠-2)(hm:m<1000000)(hp:(stN (V.nd s) d).pr=p)(ha:ci zs.length s (bN (V.nd s) d)=a)(i3:1<=a)(i4:a<=1048576)(c5:upN (aM (V.nd s) (aH s d a))=true)(c6:Hid (ca s (V.nd s) (aH s d a)=[B]))(c7:FI zs.length B):Calls prog 111 #[.pointer (some ⟨X.xb,0,none⟩),.int .i64 (s:Int),.int .i64 (d:Int),.int .i64 (p:Int)] w fun e w'=>e=.returned (.tuple #[])∧WOut w0 w w' C X zs (ei zs V s d a) (m+5):=by
 have c8:=hid c5;have e9:=hid c7;clear c5 c7;obtain⟨f0,f1,-,-,-⟩:=h.cells;have i5:=h.ns s v;have L:=h.n7;have a3:=hid h;have HE:=hid hE;have c:=hid v;have HU:=hid hu;have a9:=gS (h.inv.nd s v) g;obtain⟨c9,o⟩:=nmd (zs.length);have HA:=hid (mt s (bN (V.nd s) d) h v a9.1 a9.2);rw[ha]at HA;have d0:=hid (ry d p (h.nds s v) g hp);have HT:=hid (uy A _ zs s (d:Int) (a:Int) w h.sl (h.held hE).to3 h.inv.he v (by omega) (by omega) (by omega) (by omega));have f2:=hid (iK (a:=(a:Int)) v L.2 g (by omega));rw[o.out]at f0 f1 v HT L;generalize bN (V.nd s) d=ab at HA d0 a9 ha;clear h hE hp hu ha
 go_enter func111,ntmps111
 go_wp2_with fail
 refine d0.mono ?_;rintro e x ⟨rfl,D⟩;subst x
 go_wp2_with fail
 refine HA.mono ?_;rintro e x ⟨rfl,D⟩;subst x
 go_wp2_with fail
 refine HT.mono ?_;rintro e x ⟨j,l,cap,rfl,hl,hb,i6⟩;have H1:=hid (a3.later hb);have d1:=hid hl;have b0:=hid hb;have i7:=hl.bl;have a5:Hid (2000<=C j∧2000<=C l):=by
  constructor
  ·rcases bU (C j) 2000 with E|E
   ·have:=a3.lt _ E;omega
   ·exact E
  ·rcases bU (C l) 2000 with E|E
   ·have:=a3.lt _ E;omega
   ·exact E
 have b1:=hid (np s d 3 a 0 0 0 false (aH s d a) rfl H1 HE c HU f2 hm);rw[show((3:Nat):Int)=3 from rfl,show((0:Nat):Int)=0 from rfl,c6.out]at b1;clear hl hb
 go_wp2_with fail
 have f3:Hid (Calls prog 165 #[pV X.xb,frV (s:Int) (s:Int) (d:Int) 3 (a:Int) false 0 0 0] x fun e q=>∃n f M,e=.returned (.slice (some ⟨n,f,none⟩) 1 M)∧∃F r,WD w0 q F r zs (aQ V s (aH s d a)) (m+2)∧key r=key X∧Kept (di C) x q∧(∀b,b<x.heap.size->F b=C b)∧FrF q F x.heap.size (.slice (some ⟨n,f,none⟩) 1 M) [B]):=by
  refine b1.mono ?_;rintro e q ⟨i8,rfl,F,r,y,G,g3,H,g5⟩;have g6:=g5;obtain⟨ad,M,rfl,hf,-⟩:=g5;obtain⟨n,f,rfl,-⟩:=hf 0 (by simp);exact⟨n,f,M,rfl,F,r,y,G,g3,H,g6⟩
 clear b1;refine f3.mono ?_;rintro e q ⟨n,f,M,rfl,F,r,y,G,g3,H,g5⟩;obtain⟨f4,i9,j0⟩:=(y.nds s c).way;rw[iN G]at f4;have f5:=hid (y.nds s c).sp.jp.pl;have d2:Hid ((((aQ V s (aH s d a)).nd s).l != -2)=true):=by rw[gU];exact c8
 have f6:=ah d1.row;have f7:Hid (LD q j l cap s d a zs P0):=d1.kept g3 (fun e=>by have O:C j<2000:=e;have:=a5.1;omega) (fun e=>by have O:C l<2000:=e;have:=a5.2;omega);have f8:((aQ V s (aH s d a)).nd s).l≠-2:=by have:=d2.out;simpa using this
 obtain⟨C3,P,t,q3⟩:=y.adopt c g f8 f7 (by rw[H _ f6];exact a5.1) (by rw[H _ (by omega)];exact a5.2) (by have:=a3.bel.size;omega) (by omega) (by decide) (by decide);rw[iN G]at P t;obtain⟨W3,f9⟩:=nmd (q.setCell ⟨(X.K s).nd,1+d,none⟩ (pV j));have g0:=f9.out;rw[g0]at P t;have g1:=hid (g5.adopt t (fun b D=>q3 b (by omega) (by omega)));have g2:=(y.nds s c).lead g;have g4:=(y.nds s c).fz (1+d);rw[iN G]at g2 g4;obtain⟨k,b2⟩:∃k:XB,Hid (({ r with K:=fun e=>if e=s then fF (r.K s) d j l cap else r.K e }:XB)=k):=⟨_,rfl⟩;have a4:Hid (key k=key X):=by rw[<-b2.out];exact(lf (i:=s) (K:=fF (r.K s) d j l cap) rfl).trans G
 have a6:Hid ((k.K s).lb d=j∧(k.K s).b d=l∧(k.K s).cap d=cap):=by rw[<-b2.out];exact⟨by simp[fF],by simp[fF],by simp[fF]⟩
 rw[b2.out]at P;have g7:Hid (LD W3 j l cap s d a zs P0):=by
  have:=(P.nds s c).lds d g (a,P0) (by simp[aA,aC]);rw[a6.out.1,a6.out.2.1,a6.out.2.2]at this;exact this
 have g8:Hid (∀b,b<w.heap.size->C3 b=C b):=fun b D=>by
  have g9:=b0.size;rw[q3 b (by omega) (by omega)];exact H b (by omega)
 have h0:Hid (Kept (di C) w W3):=by
  have g9:=b0.size;have Q:Kept (di C) w q:=(Kept.of_below b0).trans g3;refine⟨t.os.trans Q.os,t.tape.trans Q.tape,t.output.trans Q.output,bc Q.size t.size,fun b D o=>?_⟩;exact(t.block b (bm D Q.size) (fun e=>o (by have O:F b<2000:=e;rw[H b (by omega)]at O;exact O))).trans (Q.block b D o)
 have HQ:=hid P;clear y G g3 H g5 P t q3
 go_wp2_with fail
 refine(fK _ _ _ _ true q f5 d2).mono ?_;rintro e w4 ⟨rfl,D⟩;subst w4
 go_wp2_with fail
 refine(ua (by rw[o.out];exact L.2) c (by omega) g7).mono ?_;rintro e w5 ⟨v5,rfl,d3,a7⟩;have d4:=hid (mv v5 _ (HQ.later a7) d3.fr (gT c (by rw[o.out];exact L.2) g (by omega)).1 (gT c (by rw[o.out];exact L.2) g (by omega)).2 (by omega));rw[dU a4.out]at d4;have h1:=hid (g1.kept (Kept.of_below a7) (fun _ _=>rfl));have h2:=hid a7;clear d3 a7
 go_wp2_with fail
 refine d4.mono ?_;rintro e I ⟨rfl,C6,v6,R,S,T⟩;have h3:=hid (h1.kept S T);obtain⟨z,b3⟩:=nmd (aW (aA (aQ V s (aH s d a)) s (aC ((aQ V s (aH s d a)).nd s) d (a,P0))) (dw s d a zs.length));have h4:Hid (aW (dH zs z s d B) (dq zs z s d B)=ei zs V s d a):=by rw[<-b3.out];exact qV s d a B c6 (by omega) c8
 have b4:Hid ((z.nd s).ld d=some ((a:Int),P0)):=by rw[<-b3.out];show _=_;simp[aW,aA,aC]
 rw[b3.out]at R;obtain⟨u,b5⟩:∃u:XB,Hid (({ k with fv:=v6 }:XB)=u):=⟨_,rfl⟩;have b6:Hid (key u=key k):=by rw[<-b5.out];exact rfl
 have J:Hid ((u.K s).lb d=j∧(u.K s).b d=l∧(u.K s).cap d=cap):=by rw[<-b5.out];exact a6
 obtain⟨b7,d5⟩:∃b7:XB,Hid (b7={ k with xb:=X.xb,fv:=v6 }):=⟨_,rfl⟩;have h5:Hid (b7=u):=by rw[d5.out,<-b5.out,<-dU a4.out];exact rfl
 have b8:Hid (WD w0 I C6 u zs z (m+2+1)):=by rw[<-h5.out,d5.out];exact R
 have HY:=hid (And.intro S T);have h6:Hid (LD I j l cap s d a zs P0):=by
  have:=(b8.nds s c).lds d g _ b4;rw[J.out.1,J.out.2.1,J.out.2.2]at this;exact this
 obtain⟨d6,h7,d7,d8,-⟩:=h3.out;obtain⟨gg,oo,d9,b9⟩:=d8 0 (by simp);have e0:(some ⟨n,f,none⟩:Option Addr)=some ⟨gg,oo,none⟩:=by
  have O:(Value.slice (some ⟨n,f,none⟩) 1 M)=.slice d6 1 h7:=d7;have h8:(some ⟨n,f,none⟩:Option Addr)=d6:=by injection O
  rw[h8,d9]
 have c0:(⟨n,f,none⟩:Addr)=⟨gg,oo,none⟩:=bF e0;have e1:n=gg:=congrArg Addr.block c0;have e2:f=oo:=congrArg Addr.off c0;rw[<-e1,<-e2]at b9;obtain⟨U,W,Y,Z,fa,fy,a0,a1,a2⟩:=B;obtain⟨t0,t1,t2,t3,t4,t5,t6,t7,t8⟩:=mH (o:=f) (fun c1 hj=>by have:=b9 c1 hj;rw[show f+0*9+c1=f+c1 by omega]at this;exact this);simp only[List.getElem_cons_zero]at t0 t1 t2 t3 t4 t5 t6 t7 t8;obtain⟨W7,c2⟩:=nmd (I.alloc (.cells #[iV U,iV W,iV Y,iV Z,iV fa,.bool fy,iV a0,iV a1,iV a2] 125));have j1:=c2.out;have c3:Hid (bW I W7):=by rw[<-c2.out];exact aD
 have h9:Hid (W7.heap[I.heap.size]?=some (.cells #[iV U,iV W,iV Y,iV Z,iV fa,.bool fy,iV a0,iV a1,iV a2] 125 (0,0))):=by rw[<-c2.out];exact aB I _
 obtain⟨j2,j3,j4,j5,j6,j7,j8,j9,k0⟩:=bH h9;have i0:=hid (qn A U W Y Z fa fy a0 a1 a2 a3.inv.he (by decide) ((b8.later c3).held HE).to3 (h6.later c3));clear R S T d7 d8 d9 b9 e0 c0 e1 e2
 go_wp2_with fail
 refine wp_loop_rounds 2 ?_;rw[rounds_succ]
 go_wp2_with fail
 refine i0.mono ?_;rintro e w8 ⟨v8,rfl,e3,e4,e5⟩;have i1:=hid (ug (i:=s) (d:=d) (x:=((a:Int),P0)) (F:=⟨U,W,Y,Z,fa,fy,a0,a1,a2⟩) (v:=v8) b8 c3 c g b4 e3 (by rw[J.out.1,J.out.2.1,J.out.2.2];exact e4) (by rw[J.out.1];exact e5) e9);obtain⟨C9,X9,r1,r2,r3,r4,r5⟩:=i1.out;have e6:Hid ((∀e7,e7∈dq zs z s d ⟨U,W,Y,Z,fa,fy,a0,a1,a2⟩->FI zs.length e7)∧(dq zs z s d ⟨U,W,Y,Z,fa,fy,a0,a1,a2⟩).length<=1000):=by
  unfold dq;rw[b4.out];exact⟨lV c (by rw[o.out];exact L.2) g (by show(0:Int)<=a∧(a:Int)<=1048576;omega),bc (me _ _ _ _ _) (by rw[o.out];omega)⟩
 have e8:=hid (mv v8 _ r1 r5.fr e6.1 e6.2 (by omega));rw[dU r2,dU b6.out,dU a4.out]at e8;have a8:=hid (And.intro r2 (And.intro r3 r4));clear e3 e4 e5 r1 r2 r3 r4 r5
 go_wp2_with fail
 refine e8.mono ?_;rintro e k1 ⟨rfl,i2,k2,R,S,T⟩;have c4:=hid (And.intro R (And.intro S T));clear R S T
 go_wp2_with fail
 rw[rounds_succ]
 go_wp2_with fail
 go_end0
 refine⟨rfl,?_⟩;rw[<-h4.out];refine WOut.step (C1:=C3) (X1:=k) a4 h0 g8 ?_;refine WOut.step (C1:=C3) (X1:=k) rfl (Kept.of_below h2) (fun _ _=>rfl) ?_;refine WOut.step (C1:=C6) (X1:=u) b6 HY.1 HY.2 ?_;refine WOut.step (C1:=C9) (X1:=X9) a8.1 a8.2.1 a8.2.2 ?_;exact⟨i2,_,c4.1,(by unfold key;exact Prod.ext (dU (a8.1.trans (b6.trans a4))).symm rfl),c4.2.1,c4.2.2⟩
end
end Go.Proofs.YtaehdgemkafinaaGreatDoor
