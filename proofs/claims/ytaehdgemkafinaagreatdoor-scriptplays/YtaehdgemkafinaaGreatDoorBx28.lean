/-
  On the way to SPlaysProof: VS VT VU.
-/
import Derived.Test.YtaehdgemkafinaaGreatDoorBx27
set_option maxHeartbeats 8000000
set_option maxRecDepth 100000
namespace Go.Proofs.YtaehdgemkafinaaGreatDoor
open Go.RowKit
open Go.Proofs.Tryz
section
variable {w0 w w':World} {C C':Nat→Nat} {K:NB} {X:XB} {i m m':Nat} {zs:List Int} {N:PN} {V V':PX} {A:Nat→Addr}
def fF(K:NB)(d lb b cap:Nat):NB:={ K with lb:=fun e=>if e=d then lb else K.lb e,b:=fun e=>if e=d then b else K.b e,cap:=fun e=>if e=d then cap else K.cap e }
theorem ag6{d e lb b cap:Nat}{y:Int×PL}:ldV (fF K d lb b cap) (aC N d y) e=if e=d then .pointer (some ⟨lb,0,none⟩)else ldV K N e:=by
 unfold ldV aC fF
 by_cases a:e=d
 ·subst a;simp
 ·simp[a]
theorem afJ{d lb b cap:Nat}{y:Int×PL}(a:d<6):(ndC K N).set (1+d) (.pointer (some ⟨lb,0,none⟩))=ndC (fF K d lb b cap) (aC N d y):=by
 unfold ndC;simp only[ag6];rcases six a with rfl|rfl|rfl|rfl|rfl|rfl<;>rfl
theorem ND.putLead{d lb b cap:Nat}{a:Int}{P:PL}(h:ND w0 w C K i zs N m)(q:d<6)(r:LD w lb b cap i d a zs P)(s:C lb=100*i+10+d)(t:C b=100*i+20+d)(h0:w0.heap.size<=K.nd):ND w0 (w.setCell ⟨K.nd,1+d,none⟩ (.pointer (some ⟨lb,0,none⟩))) C (fF K d lb b cap) i zs (aC N d (a,P)) m:=by
 have x:=h.cs;have y:=h.cj;have z:=h.cm;have B:=h.cp;have D:=h.cq;have u:=h.cn;have p:Kept (In1 K.nd) w (w.setCell ⟨K.nd,1+d,none⟩ (pV lb)):=(Kept.refl _ w).set1 _ _;have f:∀c,C c≠100*i+1->¬In1 K.nd c:=fun c e k=>by rw[show c=K.nd from k]at e;exact e u
 have v:∀c,In1 K.nd c->w0.heap.size<=c:=fun c k=>by rw[show c=K.nd from k];exact h0
 refine⟨?_,h.sp.far p v (fun c k=>f c (by rcases k with rfl|rfl|rfl<;>omega)) (f _ (by omega)) (f _ (by omega)),fun g l j n=>?_,h.cn,h.cs,h.cj,h.cm,h.cp,h.cq,fun g l j n=>?_,h.n0⟩
 ·show(w.setCell ⟨K.nd,1+d,none⟩ (pV lb)).heap[K.nd]?=_
  rw[aE w K.nd (1+d) _ _ _ h.row,List.setIfInBounds_toArray,afJ q]
 ·by_cases e:g=d
  ·subst e
   have o:(a,P)=j:=by simpa [aC]using n
   subst o;have:=r.kept p (f _ (by omega)) (f _ (by omega))
   simpa [fF]using this
  ·have o:N.ld g=some j:=by simpa [aC,e]using n
   have E:=h.cl g l j o;have:=(h.lds g l j o).kept p (f _ (by omega)) (f _ (by omega))
   simpa [fF,e]using this
 ·by_cases e:g=d
  ·subst e;simpa [fF]using And.intro s t
  ·have:=h.cl g l j (by simpa [aC,e]using n)
   simpa [fF,e]using this
theorem NI.putLead{n d:Nat}{a:Int}{P:PL}(h:NI n N m)(g:N.l≠-2)(j:0<=a∧a<=1048576)(h1:P.stt<4)(k:0<=P.seen∧P.seen<=1048576)(l:PW n P):NI n (aC N d (a,P)) m:=by
 refine⟨h.gd,h.nm,h.sz,h.up,h.l0,h.l1,fun b c e=>?_⟩
 by_cases f:b=d
 ·subst f
  have o:(a,P)=c:=by simpa [aC]using e
  subst o;exact⟨g,j,h1,k,l⟩
 ·exact h.ld b c (by simpa [aC,f]using e)
theorem WD.putLead{w1:World}{d lb b cap:Nat}{a:Int}{P:PL}(h:WD w0 w C X zs V m)(q:Below w.heap.size w w1)(f:i<zs.length)(y:d<6)(z:(V.nd i).l≠-2)(j:LD w1 lb b cap i d a zs P)(G:w.heap.size<=b)(B:0<=a∧a<=1048576)(h1:P.stt<4)(D:0<=P.seen∧P.seen<=1048576):∃C',WD w0 (w1.setCell ⟨(X.K i).nd,1+d,none⟩ (.pointer (some ⟨lb,0,none⟩))) C' { X with K:=fun e=>if e=i then fF (X.K i) d lb b cap else X.K e } zs (aA V i (aC (V.nd i) d (a,P))) m∧Kept (di C) w (w1.setCell ⟨(X.K i).nd,1+d,none⟩ (.pointer (some ⟨lb,0,none⟩)))∧(∀x,x<w.heap.size->C' x=C x)∧C' lb=100*i+10+d∧C' b=100*i+20+d∧(∀x,w.heap.size<=x->x≠lb->x≠b->2000<=C' x):=by
 have H:=h.n7.2;have I:=j.bl;have E:=ah j.row;obtain⟨c,k⟩:∃c,c=bV (bV C lb (100*i+10+d)) b (100*i+20+d):=⟨_,rfl⟩;have r:∀x,x<w.heap.size->c x=C x:=fun x g=>by rw[k,aq (by omega),aq (by omega)]
 have s:c lb=100*i+10+d:=by rw[k,aq (by omega),bw]
 have t:c b=100*i+20+d:=by rw[k,bw]
 have u:∀x,w.heap.size<=x->x≠lb->x≠b->2000<=c x:=fun x g l n=>by
  rw[k,aq n,aq l];rcases bU (C x) 2000 with p|p
  ·have:=h.lt x p;omega
  ·exact p
 have o:=h.grow (C':=c) q r (fun x g v=>by
  by_cases l:x=lb
  ·rw[l];exact E
  ·by_cases n:x=b
   ·rw[n];omega
   ·have:=u x g l n;omega)
 have J:=(h.nds i f).cn;have L:=(o.nds i f).cn;have M:=ah (h.nds i f).row;have F:=(h.inv.nd i f).putLead (d:=d) z B h1 D j.pw;refine⟨c,?_,?_,r,s,t,u⟩
 ·exact o.node (S:=In1 (X.K i).nd) ((Kept.refl _ w1).set1 _ _) f (fun x g=>by rw[show x=_ from g];omega) (fun _ _=>rfl) (fun x g v=>by have:=o.lt x v;omega) ((o.nds i f).putLead y j s t (h.nds i f).n0) rfl aj (h.inv.node F aj)
 ·exact(Kept.of_below q).setCell (show C (X.K i).nd<2000 by omega) _
def eO(n:Nat)(V:PX)(s d:Int):Nat:=if(0<=s∧s<n)∧0<=d∧d<6 then(if upN (V.nd s.toNat)=true then(if hU n V d.toNat=true then 8 else 0)else 6)else 2
theorem WD.sl(h:WD w0 w C X zs V m):IsSl w (.slice (some ⟨X.wb,0,none⟩) zs.length X.wc) zs:=by
 have:=h.n7.2;exact⟨_,X.wc,rfl,by unfold maxLen;omega,(fun a=>by cases a),fun _=>⟨X.wb,0,rfl,h.ws⟩⟩
theorem adF{n d:Nat}(h:hU n V d=false)(a:i<n):(V.nd i).ld d=none:=by
 unfold hU at h;rw[List.any_eq_false]at h;have:=h i (List.mem_range.2 a)
 cases b:(V.nd i).ld d with
 | none=>rfl
 | some c=>rw[b]at this;simp at this
theorem ou{n:Nat}{s d:Nat}(a:s<n)(b:n<=7)(c:d<6):(∀f,f∈toL s d 1 0 0 n->FI n f)∧(toL s d 1 0 0 n).length<=1000:=
 ⟨kI a b c (by decide) (by decide) (by decide) n aj,by rw[eJ];omega⟩
theorem acH(s d:Int)(c:Nat)(h:WD w0 w C X zs V m)(G:Held9 w0 A)(hm:m<1000000)(hc:eO zs.length V s d=c):Calls prog 39 #[.pointer (some ⟨X.xb,0,none⟩),.int .i64 s,.int .i64 d] w fun e w'=>e=.returned (ev A c)∧WOut w0 w w' C X zs (if c=0 then dP zs V s.toNat d.toNat else V) (m+1):=by
 have j:=hid h;have y:=hid G;have z:=hid (h.held G);have H:=h.n7;clear h G;subst hc
 by_cases k:(0<=s∧s<zs.length)∧0<=d∧d<6
 ·obtain⟨a,rfl⟩:=bD k.1.1
  obtain⟨f,rfl⟩:=bD k.2.1;have B:a<zs.length:=by omega
  have l:f<6:=by omega
  have g:=hid B;obtain⟨p,u⟩:=nmd (((V.nd a).l != -2));have I:Hid (upN (V.nd a)=p):=u.out
  cases p with
  | true =>
   obtain⟨b,v⟩:=nmd (hU zs.length V f)
   cases b with
   | true =>
    have e:eO zs.length V a f=8:=by unfold eO;rw[af k,aU,aU,I.out,af rfl,v.out,af rfl]
    rw[e];clear e k B;have J:w.cell? ⟨7,0,none⟩=some (.iface 318 (.pointer (some (A 7)))):=z.var 7 (by decide)
    go_enter func39,ntmps39
    go_wp2_with fail
    refine(fu a f j g l).mono ?_;rintro e n ⟨rfl,L⟩;subst n
    go_wp2_with fail
    refine(fm true (j.nds a g) z u).mono ?_;rintro e n ⟨rfl,b⟩;simp only[if_true];have x:=hid (j.later b);have o:=hid b;have U:=ag b J;clear b J
    go_wp2_with fail
    have t:=hid (td f x y l);rw[v.out]at t;refine t.mono ?_;rintro e D ⟨rfl,q⟩;have M:=hid (o.trans (q.mono o.size));have J:=ag q U;clear q U
    go_wp2_with fail
    go_ret
    exact⟨rfl,j.out.out M (aP _)⟩
   | false =>
    have e:eO zs.length V a f=0:=by unfold eO;rw[af k,aU,aU,I.out,af rfl,v.out,aa (by decide)]
    rw[e];clear e k B;have a2:Hid ((V.nd a).l≠-2):=by have:=u.out;show(V.nd a).l≠-2;simpa using this
    have a3:=hid (adF v g)
    go_enter func39,ntmps39
    go_wp2_with fail
    refine(fu a f j g l).mono ?_;rintro e n ⟨rfl,L⟩;subst n
    go_wp2_with fail
    refine(fm true (j.nds a g) z u).mono ?_;rintro e n ⟨rfl,b⟩;simp only[if_true];have x:=hid (j.later b);have o:=hid b;clear b
    go_wp2_with fail
    have t:=hid (td f x y l);rw[v.out]at t;refine t.mono ?_;rintro e D ⟨rfl,q⟩;have M:=hid (o.trans (q.mono o.size));have r:=hid (x.later q);have c0:=r.cells.1;clear q t x
    go_wp2_with fail
    refine(aaW A _ zs a (f:Int) D r.sl (r.held y).to3 r.inv.he g (by omega) (by omega)).mono ?_;rintro e w3 ⟨O,p,cap,rfl,P,E,W⟩;have a9:=hid P;have c1:=((r.later E).nds a g).lead l;rw[kJ a3.out]at c1;have z1:=((r.later E).nds a g).fz (1+f);obtain⟨C4,Q,R,Y,-,-,-⟩:=r.putLead E g l a2 P W (by decide) (by decide) (by decide);obtain⟨Z,a4⟩:=nmd (w3.setCell ⟨(X.K a).nd,1+f,none⟩ (pV O));have a5:=a4.out;rw[a5]at Q R;have F:=hid (And.intro Q (And.intro R Y));clear Q R Y P E W;have a0:=hid ((F.1.nds a g).lds f l (0,P0) (by simp[aA,aC]));simp only[fF,if_true]at a0
    go_wp2_with fail
    refine(uo H.2 a0).mono ?_;rintro e w5 ⟨a6,rfl,a1,S⟩;have H5:=hid (F.1.later S);have a7:=hid (mv a6 _ H5 a1.fr (ou g H.2 l).1 (ou g H.2 l).2 (by omega));have a8:=hid S;clear a1 S
    go_wp2_with fail
    refine a7.mono ?_;rintro e w6 ⟨rfl,C6,v6,y1,y2,y3⟩;have T:=hid (And.intro y1 (And.intro y2 y3));clear y1 y2 y3
    go_wp2_with fail
    go_ret
    refine⟨rfl,?_⟩;refine WOut.step (X:=X) (C1:=C) (X1:=X) rfl (Kept.of_below M) (fun _ _=>rfl) ?_;refine WOut.step (X1:={ X with K:=fun e=>if e=a then fF (X.K a) f O p cap else X.K e }) (lf rfl) F.2.1 F.2.2 ?_;refine WOut.step (C1:=C4) (X1:={ X with K:=fun e=>if e=a then fF (X.K a) f O p cap else X.K e }) rfl (Kept.of_below a8) (fun _ _=>rfl) ?_;exact⟨C6,_,T.1,rfl,T.2.1,T.2.2⟩
  | false =>
   have e:eO zs.length V a f=6:=by unfold eO;rw[af k,aU,I.out,aa (by decide)]
   rw[e];clear e k B
   go_enter func39,ntmps39
   go_wp2_with fail
   refine(fu a f j g l).mono ?_;rintro e n ⟨rfl,L⟩;subst n
   go_wp2_with fail
   refine(fm false (j.nds a g) z u).mono ?_;rintro e n ⟨rfl,b⟩;rw[aa (by decide),aa (by decide)];have o:=hid b;clear b
   go_wp2_with fail
   go_ret
   exact⟨rfl,j.out.out o (aP _)⟩
 ·have e:eO zs.length V s d=2:=by unfold eO;rw[aa k]
  rw[e];have HS:=hid k;clear e k
  go_enter func39,ntmps39
  go_wp2_with fail
  refine(jO s d j y HS).mono ?_;rintro e n ⟨rfl,b⟩;have o:=hid b;clear b
  go_wp2_with fail
  refine(jD _ _).mono ?_;rintro e D ⟨rfl,L⟩;subst D
  go_wp2_with fail
  go_ret
  exact⟨rfl,j.out.out o (aP _)⟩
end
section
variable {w0 w w':World} {C C':Nat→Nat} {K:NB} {X:XB} {i m m':Nat} {zs:List Int} {N:PN} {V V':PX} {A:Nat→Addr}
def iT(N:PN):PN:={ N with l:=-1,over:=false,R:=fun _=>false }
theorem NI.wake{n:Nat}(h:NI n N m)(a:N.l=-2):NI n (iT N) m:=
 ⟨h.gd,h.nm,h.sz,fun _=>rfl,by show(-2:Int)<=-1;omega,by show(-1:Int)<=_;omega,fun b c d=>by have:=(h.ld b c d).1;exact(this a).elim⟩
theorem WD.wake{w1 a:World}{c f j:Nat}(h:WD w0 w C X zs V m)(p:i<zs.length)(v:(V.nd i).l=-2)(P:Pl w1 (X.K i).p (X.K i).q (V.nd i).B (-1))(r:Kept (In2 (X.K i).p (X.K i).q) w w1)(Q:JR a f (X.K i).p (au (V.nd i).B.data.toList) false)(y:SR a c f j i (fun _=>false) 0)(z:Below w1.heap.size w1 a)(R:w1.heap.size<=f)(S:f<j)(T:j<c):∃C' s,WD w0 (a.setCell ⟨(X.K i).nd,0,none⟩ (.pointer (some ⟨c,0,none⟩))) C' s zs (aA V i (iT (V.nd i))) m∧key s=key X∧Kept (di C) w (a.setCell ⟨(X.K i).nd,0,none⟩ (.pointer (some ⟨c,0,none⟩)))∧(∀x,x<w.heap.size->C' x=C x)∧s.K i={ X.K i with s:=c,j:=f,mb:=j }:=by
 have n7:=h.n7.2;have d:=h.nds i p;have e1:=d.cs;have e2:=d.cj;have e3:=d.cm;have U:=d.cp;have W:=d.cq;have q:=d.cn;have a5:=r.size;have Y:=y.lts;obtain⟨l1,l2,l3,B,D⟩:=d.sp.lts;have E:=ah d.row;have Z:=h.bel.size;obtain⟨g,l⟩:∃g,g=bV (bV (bV C c (100*i+2)) f (100*i+3)) j (100*i+4):=⟨_,rfl⟩;have k:∀x,x<w.heap.size->g x=C x:=fun x b=>by rw[l,aq (by omega),aq (by omega),aq (by omega)]
 have q1:g c=100*i+2:=by rw[l,aq (by omega),aq (by omega),bw]
 have q2:g f=100*i+3:=by rw[l,aq (by omega),bw]
 have q3:g j=100*i+4:=by rw[l,bw]
 have a0:bW w0 w1:=r.below Z (fun x b=>by rcases b with rfl|rfl;exact h.low _ (by omega);exact h.low _ (by omega)) h.bel
 have a1:=ac5 (w0:=w0) a0 P (h.low _ (by omega)) (h.low _ (by omega)) Q y z R S T (by decide) (by decide) d.sp.jp.sz d.sp.jp.s6;have F:Kept (In2 (X.K i).p (X.K i).q) w a:=r.trans (Kept.of_below z);have a2:Kept (In1 (X.K i).nd) a (a.setCell ⟨(X.K i).nd,0,none⟩ (pV c)):=(Kept.refl _ a).set1 0 _;have t:∀x,g x≠100*i+1->¬In1 (X.K i).nd x:=fun x G b=>by rw[show x=(X.K i).nd from b,k _ E]at G;exact G q
 have H:Kept (fun x=>C x / 100=i) w (a.setCell ⟨(X.K i).nd,0,none⟩ (pV c)):=(F.mono d.in2).setCell (show C (X.K i).nd / 100=i by omega) _;have a3:a.heap[(X.K i).nd]?=some (.cells (ndC (X.K i) (V.nd i)).toArray 152 (0,0)):=F.row d.row (fun n=>by rcases n with n|n;(rw[n]at q;omega);(rw[n]at q;omega))
 have I:∀e,(V.nd i).ld e=none:=fun e=>by
  cases u:(V.nd i).ld e with
  | none=>rfl
  | some x=>exact(((h.inv.nd i p).ld e x u).1 v).elim
 have a4:ND w0 (a.setCell ⟨(X.K i).nd,0,none⟩ (pV c)) g { X.K i with s:=c,j:=f,mb:=j } i zs (iT (V.nd i)) m:=by
  refine⟨?_,?_,fun e u x b=>?_,(k _ E).trans q,q1,q2,q3,(k _ B).trans U,(k _ D).trans W,fun e u x b=>?_,d.n0⟩
  ·show(a.setCell ⟨(X.K i).nd,0,none⟩ (pV c)).heap[(X.K i).nd]?=_
   rw[aE a (X.K i).nd 0 _ _ _ a3];rfl
  ·have:=(a1.mono (Nat.zero_le m)).far a2 (fun x b=>by rw[show x=_ from b];exact d.n0) (fun x b=>t x (by rcases b with rfl|rfl|rfl;omega;(rw[k _ B];omega);(rw[k _ D];omega))) (t _ (by omega)) (t _ (by omega))
   exact this
  ·have o:(V.nd i).ld e=some x:=b
   rw[I e]at o;cases o
  ·have o:(V.nd i).ld e=some x:=b
   rw[I e]at o;cases o
 refine⟨g,_,h.node H p (fun x b=>b) k (fun x b J=>?_) a4 rfl aj (h.inv.node ((h.inv.nd i p).wake v) aj),lf rfl,H.mono (fun x b=>by show C x<2000;omega),k,?_⟩
 ·rw[show(a.setCell ⟨(X.K i).nd,0,none⟩ (pV c)).heap.size=a.heap.size by simp]
  by_cases L:x=c
  ·rw[L];exact Y.1
  ·by_cases M:x=f
   ·rw[M];omega
   ·by_cases O:x=j
    ·rw[O];omega
    ·rw[l,aq O,aq M,aq L]at J
     have:=h.lt x J;omega
 ·simp
def gi(n:Nat)(V:PX)(s:Int):Nat:=if 0<=s∧s<n then(if upN (V.nd s.toNat)=true then 8 else 0)else 2
theorem afk{d:Nat}:stN ((aA V i (iT (V.nd i))).nd i) d=stN (V.nd i) d:=by
 unfold aA;simp only[if_true];rfl
theorem aeA(s:Int)(c:Nat)(h:WD w0 w C X zs V m)(F:Held9 w0 A)(hc:gi zs.length V s=c):Calls prog 58 #[.pointer (some ⟨X.xb,0,none⟩),.int .i64 s] w fun e w'=>e=.returned (ev A c)∧WOut w0 w w' C X zs (if c=0 then upX V s.toNat else V) (m+1):=by
 have d:=hid h;have U:=hid F;have b1:=hid (h.held F);have n7:=h.n7;clear h F;subst hc
 by_cases k:0<=s∧s<zs.length
 ·obtain⟨a,rfl⟩:=bD k.1
  have u:a<zs.length:=by omega
  have j:=hid u;obtain⟨v,x⟩:=nmd (((V.nd a).l != -2));have W:Hid (upN (V.nd a)=v):=x.out;obtain⟨c1,c2,c3⟩:=(d.nds a u).way
  cases v with
  | true =>
   have e:gi zs.length V a=8:=by unfold gi;rw[af k,aU,W.out,af rfl]
   rw[e];clear e k u;have g7:w.cell? ⟨7,0,none⟩=some (.iface 318 (.pointer (some (A 7)))):=b1.var 7 (by decide)
   go_enter func58,ntmps58
   go_wp2_with fail
   refine(hQ a d j).mono ?_;rintro e f ⟨rfl,n⟩;subst f
   go_wp2_with fail
   refine(fK _ _ _ _ true w (d.nds a j).sp.jp.pl x).mono ?_;rintro e f ⟨rfl,n⟩;subst f
   go_wp2_with fail
   go_ret
   exact⟨rfl,d.out.out aF (aP _)⟩
  | false =>
   have e:gi zs.length V a=0:=by unfold gi;rw[af k,aU,W.out,aa (by decide)]
   rw[e];clear e k u;have HL:Hid ((V.nd a).l=-2):=by have:=x.out;show(V.nd a).l=-2;simpa using this
   have b:=hid (d.nds a j);have Y:=hid (d.inv.nd a j).sz
   go_enter func58,ntmps58
   go_wp2_with fail
   refine(hQ a d j).mono ?_;rintro e f ⟨rfl,n⟩;subst f
   go_wp2_with fail
   refine(fK _ _ _ _ false w b.sp.jp.pl x).mono ?_;rintro e f ⟨rfl,n⟩;subst f
   go_wp2_with fail
   refine(afF _ _ _ _ w b.sp.jp.pl).mono ?_;rintro e f ⟨rfl,G,y⟩;have Z:=hid G;have a0:=hid y;obtain⟨c4,c5,c6⟩:=(b.power y G (by decide) (by decide)).way;have b2:=hid (U.later (y.below d.bel.size (fun o n=>d.low _ (by have:=b.in2 o n;have:=j.out;omega)) d.bel));clear G y
   go_wp2_with fail
   refine(yh A (a:Int) _ _ _ (-1) f Z b2.toE (by rw[Y.out];decide) (by rw[Y.out];decide) (by decide) (by omega) (by have:=j.out;omega)).mono ?_;rintro e r ⟨s',j',c7,rfl,hj,a1,H,a2,a3,a4⟩;obtain⟨C3,X3,I,q2,J,q4,q5⟩:=d.wake j HL Z a0 hj a1 H a2 a3 a4;obtain⟨p,L⟩:=nmd (r.setCell ⟨(X.K a).nd,0,none⟩ (pV s'));have b3:=L.out;have M:Hid (Kept (In2 (X.K a).p (X.K a).q) w r):=a0.trans (Kept.of_below H);have O:=M.row b.row (fun e=>by have z:=b.cn;have e4:=b.cp;have e5:=b.cq;rcases e with e|e;(rw[e]at z;omega);(rw[e]at z;omega))
   have d0:r.cell? ⟨(X.K a).nd,0,none⟩=some (pV (X.K a).s):=by rw[ai O];rfl
   have z0:=aK r (X.K a).nd 0 _ _ O;rw[b3]at I J;have t:=hid (And.intro I (And.intro q2 (And.intro J q4)));have a5:Hid (JR p (X.K a).j (X.K a).p (dlN (V.nd a)) (V.nd a).over):=by
    rw[<-L.out];show(r.setCell _ _).heap[(X.K a).j]?=_;rw[dS _ _ _ _ (by show(X.K a).j≠(X.K a).nd;intro e;have z:=b.cn;have B:=b.cj;rw[e]at B;omega)];exact M.row b.sp.jp.jr (fun e=>by have B:=b.cj;have e4:=b.cp;have e5:=b.cq;rcases e with e|e;(rw[e]at B;omega);(rw[e]at B;omega))
   have b4:Hid (SR p (X.K a).s (X.K a).j (X.K a).mb a (V.nd a).R m):=by
    have P:=b.cs;have Q:=b.cm;have e4:=b.cp;have e5:=b.cq;have z:=b.cn;have b5:Kept (fun o=>o=(X.K a).nd∨In2 (X.K a).p (X.K a).q o) w p:=by rw[<-L.out];exact(M.mono (fun o n=>.inr n)).setCell (.inl rfl) _
    refine b.sp.sr.kept b5 (fun e=>?_) (fun e=>?_)
    ·rcases e with e|e|e
     ·rw[e]at P;omega
     ·rw[e]at P;omega
     ·rw[e]at P;omega
    ·rcases e with e|e|e
     ·rw[e]at Q;omega
     ·rw[e]at Q;omega
     ·rw[e]at Q;omega
   clear I q2 J q4 q5 hj a1 H a2 a3 a4 O
   go_wp2_with fail
   go_loopw [79] (fun R wr=>∃g:Nat,g<=6∧R=iV (g:Int)∧bW p wr) (fun R _=>6-(intOf R).toNat)
   case atStart=>exact⟨0,Nat.zero_le _,rfl,aF⟩
   case round =>
    obtain⟨g,hq,rfl,l⟩:=hrel;have S:=hid l;have Hr:=hid (t.1.later l);have b6:=hid (a5.later l a5.lt);have b7:=hid (b4.later l);clear l
    by_cases a6:g<6
    ·obtain⟨⟨q,D,E⟩,a7⟩:∃o,Hid ((dlN (V.nd a) g).2=o):=⟨_,rfl⟩
     have b8:Hid (stN ((aA V a (iT (V.nd a))).nd a) g=⟨q,D,E⟩):=afk.trans a7;have c8:∀w,(Instr.field 80 (.agg #[iV (q:Int),iV (D:Int),iV (E:Int)]) 0).run prog w=.ok (iV (q:Int)) w:=fun w=>mw _ _ _ w
     go_wp2_with fail
     refine(kM g q D E b6 b7 a6 a7).mono ?_;rintro e w5 ⟨rfl,T⟩;have a8:=hid (S.trans (T.mono S.size));have a9:=hid (pL a g q q D E (Hr.later T) j a6 b8 (fun h=>h.1 rfl));rw[dU t.out.2.1]at a9;clear T
     go_wp2_with fail
     refine a9.mono ?_;rintro e w6 ⟨rfl,b0⟩;have b9:=hid (a8.trans (b0.mono a8.size));clear b0
     go_wp2_with fail
     go_roundw
     case rel=>exact⟨g+1,by omega,by go_num,b9⟩
     case measure=>simp[intOf];omega
    ·obtain rfl:g=6:=by omega
     go_wp2_with fail
     go_ret
     refine⟨rfl,?_⟩;exact⟨_,_,Hr.mono (aP _),t.2.1,t.2.2.1.trans (Kept.of_below S),t.2.2.2⟩
 ·have e:gi zs.length V s=2:=by unfold gi;rw[aa k]
  rw[e];have HS:=hid k;clear e k
  go_enter func58,ntmps58
  go_wp2_with fail
  refine(ki s d U HS).mono ?_;rintro e f ⟨rfl,l⟩;have c0:=hid l;clear l
  go_wp2_with fail
  go_ret
  exact⟨rfl,d.out.out c0 (aP _)⟩
end
theorem qM{w:World}{ops:Array Oper}{o:Oper}{a:Act}{K:Act->World->Prop}{Q:Exit->Act->World->Prop}{E:Prop}(k:o.guard=none)(s x:Operand)(l:o.op=.call { callee:=.builtin .append,args:=#[s,x],argTypes:=#[55,55] })(base n:Nat)(v:Value)(xs:List Value)(e:Addr)(c:Nat)(F:F9)(m:a.eval s=v)(p:a.eval x=.slice (some e) 1 c)(q:w.ownsRow base 125 9 v n xs)(r:∀j f,(f9L F)[j]?=some f->w.cell? (e.add j)=some f)(J:n<=1000000000000)(t:base<=w.heap.size)(h:∀b d w',w'.ownsRow base 125 9 (.slice b (n+1) d) (n+1) (xs++f9L F)->w.grownBy w' v.ownBlock->((Value.slice b (n+1) d).ownBlock=v.ownBlock∨(Value.slice b (n+1) d).ownBlock=some w.heap.size)->K (a.put o.dst (.slice b (n+1) d)) w'):if Region.wanted o (yielded ops a.tmps)=true then Oper.wp prog o a w K Q else E:=by
 have u:Region.wanted o (yielded ops a.tmps)=true:=by simp[Region.wanted,k]
 rw[af u];obtain⟨y,z,A,B,C⟩:=info_parts Tryz.infoFq;obtain⟨D,w',G,g,H,-,I⟩:=run_append_own_at (P:=prog) w base 55 o.type 125 y _ 9 72 underlying55 z A B C rfl (by decide) v n xs q e 1 c (f9L F) rfl r (oG F) (by unfold maxLen;omega) (by omega) t;obtain⟨b,d,rfl⟩:∃b d,D=.slice b (n+1) d:=by
  rcases g.2 with⟨i,L⟩|⟨M,cap,N,i,-⟩
  ·omega
  ·exact⟨_,_,i⟩
 unfold Oper.wp execOp;simp only[l,resolve,invoke,builtin,Sem.run_bind,Sem.run_pure,Result.andThen_ok,List.map_toArray,List.map_cons,List.map_nil,m,p,G];exact h b d w' g H I
theorem pA{w:World}{ops:Array Oper}{o:Oper}{a:Act}{K:Act->World->Prop}{Q:Exit->Act->World->Prop}{E:Prop}(l:o.guard=none)(s x:Operand)(m:o.op=.call { callee:=.builtin .append,args:=#[s,x],argTypes:=#[55,55] })(base n:Nat)(v:Value)(M:List F9)(b f c:Nat)(F:F9)(p:M.length=n)(q:a.eval s=v)(r:a.eval x=.slice (some ⟨b,f,none⟩) 1 c)(t:OwnF w base v M)(u:∀j g,(f9L F)[j]?=some g->w.cell? ((⟨b,f,none⟩:Addr).add j)=some g)(N:n<1000000000000)(y:base<=w.heap.size)(h:∀d e w',OwnF w' base (.slice d (n+1) e) (M++[F])->w.grownBy w' v.ownBlock->((Value.slice d (n+1) e).ownBlock=v.ownBlock∨(Value.slice d (n+1) e).ownBlock=some w.heap.size)->K (a.put o.dst (.slice d (n+1) e)) w'):if Region.wanted o (yielded ops a.tmps)=true then Oper.wp prog o a w K Q else E:=by
 have z:Region.wanted o (yielded ops a.tmps)=true:=by simp[Region.wanted,l]
 rw[af z];have A:IsFr w (.slice (some ⟨b,f,none⟩) 1 c) [F]:=by
  refine⟨_,c,rfl,fun B C=>⟨b,f,rfl,fun j D=>?_⟩⟩;obtain rfl:B=0:=by simpa using C
  have i:(f9L F)[j]?=some ((f9L F)[j]'(by rw[bJ];exact D)):=cG _;have:=u j _ i;rw[cZ]at this;rw[Nat.zero_mul,Nat.add_zero,this,<-i];rfl
 obtain⟨G,w',H,k,I,J⟩:=lk w o.type base v _ M [F] t A (by show M.length+1<=_;omega) y;obtain⟨d,e,rfl⟩:∃d e,G=.slice d (n+1) e:=by
  obtain⟨d,e,L⟩:=k.form;exact⟨d,e,by rw[L,aR,p];rfl⟩
 unfold Oper.wp execOp;simp only[m,resolve,invoke,builtin,Sem.run_bind,Sem.run_pure,Result.andThen_ok,List.map_toArray,List.map_cons,List.map_nil,q,r,H];exact h d e w' k I J
section
variable {w0 w w':World} {C C':Nat→Nat} {K:NB} {X:XB} {i m m':Nat} {zs:List Int} {N:PN} {V V':PX} {A:Nat→Addr}
theorem iE:aW V []=V:=by unfold aW;rw[List.append_nil]
theorem acm(L M:List F9):aW (aW V L) M=aW V (L++M):=by unfold aW;simp only[List.append_assoc]
theorem ac8{W wr b w':World}{C1:Nat->Nat}{X1:XB}{s d ph pr k:Nat}{F:F9}{v':Value}(j:WD w0 wr C1 X1 zs (aW V (toL s d 7 pr ph k)) (m+k))(c:key X1=key X)(l:Kept (di C) W wr)(n:∀x,x<W.heap.size->C1 x=C x)(f:Below wr.heap.size wr b)(o:OwnF w' w0.heap.size v' ((aW V (toL s d 7 pr ph k)).fly++[F]))(p:b.grownBy w' X1.fv.ownBlock)(q:v'.ownBlock=X1.fv.ownBlock∨v'.ownBlock=some b.heap.size)(r:s<zs.length)(t:k<zs.length)(u:zs.length<=7)(v:d<6)(H:ph<=5)(I:pr<=1048576)(g:F=⟨s,k,d,7,pr,false,ph,0,0⟩):WOut w0 W (w'.setCell ⟨X.xb,3,none⟩ v') C X zs (aW V (toL s d 7 pr ph (k+1))) (m+(k+1)):=by
 have y:∀a,a∈[F]->FI zs.length a:=fun a z=>by
  have B:a∈toL s d 7 (pr:Int) (ph:Int) (k+1):=by rw[toL,List.mem_append];right;rw[<-g];exact z
  exact kI r u v (by decide) (by omega) (by omega) (k+1) t a B
 obtain⟨D,e,h,E⟩:=(j.later f).sent (L:=[F]) o p q y (by show 1<=1000;decide);rw[dU c]at e h;have G:aW (aW V (toL s d 7 pr ph k)) [F]=aW V (toL s d 7 pr ph (k+1)):=by rw[acm,g];rfl
 rw[G]at e;refine WOut.step (C1:=C1) (X1:=X1) c l n ?_;refine WOut.step (C1:=C1) (X1:=X1) rfl (Kept.of_below f) (fun _ _=>rfl) ?_;exact⟨D,_,e,(by unfold key;exact Prod.ext (dU c).symm rfl),h,E⟩
theorem xf(s d ph pr pa:Nat)(h:WD w0 w C X zs V m)(I:s<zs.length)(Y:d<6)(Z:ph<=5)(n:pr<=1048576)(hm:m<1000000):Calls prog 110 #[.pointer (some ⟨X.xb,0,none⟩),.int .i64 (s:Int),.int .i64 (d:Int),agS ph pr pa] w fun e w'=>e=.returned (.tuple #[])∧WOut w0 w w' C X zs (aW V (toL s d 7 pr ph zs.length)) (m+7):=by
 obtain⟨g,z⟩:=nmd (w.alloc (.cells #[iV (ph:Int),iV (pr:Int),iV (pa:Int)] 80));have B:Hid (bW w g):=by rw[<-z.out];exact aD
 have HR:Hid (g.heap[w.heap.size]?=some (.cells #[iV (ph:Int),iV (pr:Int),iV (pa:Int)] 80 (0,0))):=by rw[<-z.out];exact aB w _
 have H0:=hid h;have J:=hid (h.later B);obtain⟨-,L,-,-,-⟩:=J.cells;have M:=h.n7;have a0:Hid (2000<=C w.heap.size):=by
  rcases bU (C w.heap.size) 2000 with D|D
  ·have:=h.lt _ D;omega
  ·exact D
 have a1:=hid I;obtain⟨k,E⟩:=nmd (zs.length);rw[E.out]at L M I ⊢;have hW:=z.out;clear h
 go_enter func110,ntmps110
 go_wp2_with fail
 clear L
 go_loopw [14] (fun F wr=>∃a:Nat,a<=k∧F=iV (a:Int)∧WOut w0 g wr C X zs (aW V (toL s d 7 pr ph a)) (m+a)) (fun F _=>k-(intOf F).toNat)
 case atStart=>exact⟨0,Nat.zero_le _,rfl,by show WOut w0 g g C X zs (aW V []) m;rw[iE];exact J.out.out aF aj⟩
 case round =>
  obtain⟨a,hk,rfl,C1,O,f,u,v,G⟩:=hrel;have b:=hid (And.intro f (And.intro u (And.intro v G)));have P:=hid (v.row HR (fun e=>by have h1:=a0.out;have h2:C w.heap.size<2000:=e;omega));have b0:wr.cell? ⟨w.heap.size,0,none⟩=some (iV (ph:Int)):=by rw[ai P.out];rfl
  have b1:wr.cell? ⟨w.heap.size,1,none⟩=some (iV (pr:Int)):=by rw[ai P.out];rfl
  obtain⟨-,-,-,Q,-⟩:=f.cells;obtain⟨c,x⟩:=nmd ((aW V (toL s d 7 pr ph a)).fly.length);obtain⟨l,cap,o⟩:∃l cap,Hid (O.fv=.slice l c cap):=by
   rw[<-x.out];exact f.fly.form
  have a2:c<1000000000000:=by rw[<-x.out];have:=f.inv.fl;omega
  rw[dU u,o.out]at Q;have a7:=f.bel.size
  by_cases a3:a<k
  ·obtain⟨y,R⟩:∃y:F9,Hid (y=⟨s,a,d,7,pr,false,ph,0,0⟩):=⟨_,rfl⟩
   obtain⟨j,H⟩:=nmd (wr.drew.alloc (.cells #[iV (s:Int),iV (a:Int),iV (d:Int),iV 7,iV (pr:Int),.bool false,iV (ph:Int),iV 0,iV 0] 125));have p:Hid (bW wr j):=by rw[<-H.out];exact aF.drew.alloc aj _
   have q:=hid (f.later p);have HO:Hid (OwnF j w0.heap.size (.slice l c cap) (aW V (toL s d 7 pr ph a)).fly):=by have:=q.fly;rw[o.out]at this;exact this
   have a4:Hid (∀S T,(f9L y)[S]?=some T->j.cell? ((⟨wr.heap.size,0,none⟩:Addr).add S)=some T):=by rw[<-H.out,R.out];exact gE wr.drew 125 (f9L ⟨s,a,d,7,pr,false,ph,0,0⟩)
   have a5:w0.heap.size<=j.heap.size:=q.bel.size;have HX:Hid (∀w',j.grownBy w' (Value.slice l c cap).ownBlock->w'.cell? ⟨X.xb,3,none⟩=some (.slice l c cap)∧w'.frozen? ⟨X.xb,3,none⟩=false):=by
    intro w' r;have n:=(bZ r).row q.row (fun e=>by rw[<-o.out]at e;have h1:=q.cf _ e;have h2:=q.cx;omega);rw[dU b.out.2.1]at n;exact⟨by rw[ai n,<-o.out];rfl,dN n⟩
   have a8:=H.out;have e3:=ag p Q;have e0:=ag p b0;have e1:=ag p b1;clear f u v G
   go_wp2_with fail
   go_region_law ((refine pA (by rfl) _ _ (by rfl) w0.heap.size c (.slice l c cap) (aW V (toL s d 7 pr ph a)).fly wr.heap.size 0 1 y x.out (by rfl) (by rfl) (by exact HO) (by exact a4) a2 a5 ?_;intro a9 b2 w' U r W;obtain⟨b3,b4⟩:=HX.out w' r;have t:=hid (And.intro U (And.intro r W));clear U r W))
   all_goals go_wp2_with fail
   all_goals go_roundw
   all_goals first|(simp[intOf];omega)|skip
   all_goals refine⟨a+1,by omega,by go_num,?_⟩
   all_goals rw[<-o.out]at t
   all_goals rw[<-x.out]at t ⊢
   all_goals exact ac8 b.1 b.2.1 b.2.2.1 b.2.2.2 p t.1 t.2.1 t.2.2 a1 (by rw[E.out];exact a3) (by rw[E.out];exact M.2) Y Z n R
  ·obtain rfl:a=k:=by omega
   clear f u v G
   go_wp2_with fail
   go_end0
   refine⟨rfl,?_⟩;exact⟨C1,O,b.1.mono (by omega),b.2.1,(Kept.of_below B).trans b.2.2.1,fun a6 hx=>b.2.2.2 a6 (bm hx B.size)⟩
end
end Go.Proofs.YtaehdgemkafinaaGreatDoor
