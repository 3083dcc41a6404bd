/-
  On the way to SPlaysProof: YY GA N4 UB YL YM YN YOR.
-/
import Derived.Test.YtaehdgemkafinaaGreatDoorBx34
set_option maxHeartbeats 8000000
set_option maxRecDepth 100000
namespace Go.Proofs.YtaehdgemkafinaaGreatDoor
open Go.RowKit
open Go.Proofs.Tryz
section
variable {zs:List Int} {V V':PX} {m:Nat}
theorem pF(L:List F9):pot zs (aW V L)=pot zs V+wtL L:=by
 show wtL (V.fly++L)+_=wtL V.fly+_+_;rw[fU];show wtL V.fly+wtL L+eu (fun a=>cS zs.length (V.nd a)) zs.length=_;omega
theorem vm{g h:Nat->Nat}{j c:Nat}(a:∀i,i≠j->g i<=h i)(e:g j<=h j+c):∀k,eu g k<=eu h k+c:=fun k=>by
 by_cases b:j<k
 ·have:=mi (g:=g) (h:=h) (j:=j) (a:=0) (b:=c) (k:=k) b (fun i _ d=>a i d) (by omega)
  omega
 ·have:=mc (g:=g) (h:=h) (k:=k) fun i f=>a i (by omega)
  omega
theorem ip{i c:Nat}{N:PN}(h:cS zs.length N<=cS zs.length (V.nd i)+c):pot zs (aA V i N)<=pot zs V+c:=by
 show wtL V.fly+eu (fun a=>cS zs.length ((aA V i N).nd a)) zs.length<=wtL V.fly+eu (fun a=>cS zs.length (V.nd a)) zs.length+c;have:=vm (g:=fun a=>cS zs.length ((aA V i N).nd a)) (h:=fun a=>cS zs.length (V.nd a)) (j:=i) (c:=c) (fun a b=>by show cS _ _<=cS _ _;rw[fE _ _ _ b];exact aj) (by show cS _ _<=cS _ _+c;rw[eA];exact h) zs.length;omega
theorem sB(i:Nat)(f:F9):pot zs (aQ V i f)<=pot zs V:=
 ip (V:=V) (i:=i) (c:=0) (N:=aM (V.nd i) f) (vK _ _ _)
theorem tc(n:Nat)(N:PN)(d:Nat)(x:Int×PL):cS n (aC N d x)<=cS n N+fh n (some x):=by
 unfold cS;refine vm (j:=d) (fun a b=>?_) ?_ 6
 ·show fh n ((aC N d x).ld a)<=_
  rw[aag _ _ _ b];exact aj
 ·show fh n ((aC N d x).ld d)<=_
  rw[mG];exact Nat.le_add_left _ _
theorem sT(s d:Nat)(a:Int):∀(L:List F9) (P:PL),fh zs.length (some (a,(fP zs s d a P L).1))+wtL (fP zs s d a P L).2<=fh zs.length (some (a,P))
 | [],P=>aj
 | f::r,P=>by
  have h1:=sT s d a r (aL zs s d a P f).1;have b:=vU (zs:=zs) (i:=s) (d:=d) (att:=a) (P:=P) (f:=f) zs.length rfl;unfold fP;show fh zs.length (some (a,(fP zs s d a (aL zs s d a P f).1 r).1))+wtL (dm s d a zs.length (aL zs s d a P f).2++(fP zs s d a (aL zs s d a P f).1 r).2)<=_;rw[fU];omega
theorem vq(L:List F9)(k:Nat):wtL (L.eraseIdx k)<=wtL L:=by
 cases a:L[k]? with
 | none=>rw[List.eraseIdx_of_length_le (List.getElem?_eq_none_iff.1 a)];exact aj
 | some b=>have:=ny L k b a;omega
theorem agm(s d:Nat)(a:Int):pot zs (ei zs V s d a)<=pot zs V+5*zs.length:=by
 unfold ei
 split
 ·omega
 ·split
  ·have:=sB (zs:=zs) (V:=V) s (aH s d a);omega
  ·rw[pF,fU]
   have g:=sB (zs:=zs) (V:=V) s (aH s d a);have h:=sT (zs:=zs) s d a (ca s (V.nd s) (aH s d a)) P0;have i:fh zs.length (some (a,P0))=3*zs.length:=rfl;have b:=vq (toL s d 3 a 0 zs.length) s;have c:wtL (toL s d 3 a 0 zs.length)=zs.length*2:=by rw[nW,af (by decide)]
   have e:=tc zs.length (aM (V.nd s) (aH s d a)) d (a,(fP zs s d a P0 (ca s (V.nd s) (aH s d a))).1);have j:=ip (zs:=zs) (V:=aQ V s (aH s d a)) (i:=s) (c:=fh zs.length (some (a,(fP zs s d a P0 (ca s (V.nd s) (aH s d a))).1))) (N:=aC (aM (V.nd s) (aH s d a)) d (a,(fP zs s d a P0 (ca s (V.nd s) (aH s d a))).1)) (by
    have f:(aQ V s (aH s d a)).nd s=aM (V.nd s) (aH s d a):=eA V s _;rw[f];exact e)
   have k:wtL (vp s d a zs.length)<=zs.length*2:=by rw[<-c];exact b
   omega
theorem acv(s d:Nat):pot zs (dy zs V s d)<=pot zs V+5*zs.length:=by
 unfold dy
 split
 ·omega
 ·split
  ·rw[pF,nW,aa (by decide)];omega
  ·exact agm s d _
theorem vt(s:Nat):∀(k d:Nat) (V:PX),pot zs (dJ zs s k d V)<=pot zs V+k*(5*zs.length)
 | 0,_,V=>by show pot zs V<=_;omega
 | k+1,d,V=>by
  have h1:=acv (zs:=zs) (V:=V) s d;have a:(k+1)*(5*zs.length)=k*(5*zs.length)+5*zs.length:=Nat.succ_mul _ _;unfold dJ
  split
  ·have b:=vt s k (d+1) (dy zs V s d)
   omega
  ·omega
theorem Stp.pot(h:Stp zs V V')(i:XI zs V m):pot zs V'<=pot zs V+210:=by
 have p:=(bp i.he).2.1;rcases h with rfl|⟨a,f,d,q,r,rfl⟩|⟨a,f,d,g,rfl⟩|⟨a,d,g,rfl⟩|⟨a,d,g,rfl⟩|⟨a,d,g,rfl⟩|⟨b,rfl⟩|⟨b,e,s,rfl⟩|⟨t,u,v,rfl⟩|⟨a,j,d,rfl⟩|⟨b,e,k,rfl⟩
 ·omega
 ·unfold dP
  rw[pF,nW,af (by decide)];have l:=tc zs.length (V.nd a) f (0,P0);have n:fh zs.length (some ((0:Int),P0))=3*zs.length:=rfl;have:=ip (zs:=zs) (V:=V) (i:=a) l;omega
 ·have:=ip (zs:=zs) (V:=V) (i:=a) (c:=0) (N:={ V.nd a with R:=my (V.nd a).R f }) aj
  show pot zs (aA V a _)<=_;omega
 ·have:=vt (zs:=zs) a 6 0 V
  omega
 ·have:=ip (zs:=zs) (V:=V) (i:=a) (c:=0) (N:=gQ (V.nd a)) (Nat.zero_le _)
  show pot zs (aA V a _)<=_;omega
 ·have:=ip (zs:=zs) (V:=V) (i:=a) (c:=0) (N:={ V.nd a with l:=-1,over:=false,R:=fun _=>false }) aj
  show pot zs (aA V a _)<=_;omega
 ·show wtL (V.fly.eraseIdx b)+eu (fun c=>cS zs.length (V.nd c)) zs.length<=wtL V.fly+eu (fun c=>cS zs.length (V.nd c)) zs.length+210
  have:=vq V.fly b;omega
 ·show wtL (V.fly.take b++e::V.fly.drop b)+eu (fun c=>cS zs.length (V.nd c)) zs.length<=wtL V.fly+eu (fun c=>cS zs.length (V.nd c)) zs.length+210
  have w:wtL V.fly=wtL (V.fly.take b)+wtL (V.fly.drop b):=by rw[<-fU,List.take_append_drop]
  have o:wtL (e::V.fly.drop b)=wtF e+wtL (V.fly.drop b):=by simp[wtL]
  have n:wtF e<=2:=by unfold wtF;split<;>omega
  rw[fU,o];omega
 ·show pot zs V<=_
  omega
 ·have:=ip (zs:=zs) (V:=V) (i:=a) (c:=0) (N:={ V.nd a with l:=cL (V.nd a).l j }) aj
  show pot zs (aA V a _)<=_;omega
 ·have:=pf i k
  omega
end
def uB(zs:List Int)(set:Int):Nat->PX->PX
 | 0,V=>V
 | k+1,V=>if bit set k=true∧upN ((uB zs set k V).nd k)=true then dJ zs k 6 0 (uB zs set k V)else uB zs set k V
def dc(zs:List Int):Nat->PX->PX
 | 0,V=>V
 | k+1,V=>match V.fly with
  | []=>V
  | f::_=>dc zs k (aX zs V 0 f)
section
variable {zs:List Int} {set:Int} {V V':PX} {m M:Nat}
theorem xG{k:Nat}(h:V.fly=[]):dc zs k V=V:=by
 cases k with
 | zero=>rfl
 | succ k=>unfold dc;rw[h]
theorem XI.deliver{k:Nat}{f:F9}(d:XI zs V m)(e:m<4000000000)(h:f∈V.fly):XI zs (aX zs V k f) (m+2):=by
 have a:=d.fr f h;have b:XI zs (ay V k) m:=d.take;have l:=a.t0;have n:=a.t1;have o:0<=f.d∧f.d<=5:=a.ok.2.2.1;unfold aX
 split
 ·rename_i c
  have g:((ay V k).nd f.t.toNat).l≠-2:=by
   show(V.nd f.t.toNat).l≠-2;unfold gV at c;rw[Bool.and_eq_true]at c;have:=c.1;unfold upN at this
   simpa using this
  unfold de cX
  split
  ·exact(b.lead a (by omega) (by omega)).mono (by omega)
  ·rename_i p
   have i:=b.hear g a e (by omega);have j:(ca f.t.toNat ((ay V k).nd f.t.toNat) f).length<=1000:=by
    unfold ca
    split
    ·show 1<=1000;decide
    ·show 0<=1000;decide
   exact i.send (kj (b.nd _ (by omega)) g a e (by omega)) j
 ·exact b.mono (by omega)
end
def ej(zs:List Int):Nat->PX->Nat
 | 0,_=>0
 | k+1,V=>match V.fly with
  | []=>0
  | f::_=>ej zs k (aX zs V 0 f)+1
section
variable {zs:List Int} {V:PX} {m:Nat}
theorem py{k:Nat}(h:V.fly=[]):ej zs k V=0:=by
 cases k with
 | zero=>rfl
 | succ k=>unfold ej;rw[h]
theorem nV{k:Nat}{f:F9}{rest:List F9}(h:V.fly=f::rest):ej zs (k+1) V=ej zs k (aX zs V 0 f)+1:=by
 show(match V.fly with|[]=>0|f::_=>ej zs k (aX zs V 0 f)+1)=_
 rw[h]
end
def gw(K:Nat->NB)(k:Nat):List Value:=(List.range k).map fun i=>.pointer (some ⟨(K i).nd,0,none⟩)
theorem xh(K:Nat->NB)(k:Nat):gw K (k+1)=gw K k++[.pointer (some ⟨(K k).nd,0,none⟩)]:=by simp[gw,List.range_succ]
theorem wg{K L:Nat->NB}{k:Nat}(h:∀i,i<k->(K i).nd=(L i).nd):gw K k=gw L k:=by
 unfold gw;refine List.map_congr_left fun i a=>?_
 rw[h i (List.mem_range.1 a)]
theorem Tryz.infoPN:(prog.info? 138).map (fun i=>(i.zero,i.size,i.bytes))=some (some (.pointer none),1,8):=by kernel_rfl
structure WN (w0 w:World) (C:Nat->Nat) (xb wb wc mb:Nat) (nv:Value) (K:Nat->NB) (zs:List Int) (k:Nat):Prop where
 bel:Below w0.heap.size w0 w
 row:w.heap[xb]?=some (.cells #[.slice (some ⟨wb,0,none⟩) zs.length wc,nv,.map (some mb),.slice none 0 0,.slice none 0 0] 148 (0,0))
 ws:∀i,i<zs.length->w.cell? ⟨wb,0+i,none⟩=some (.int .i64 (zs.getD i 0))
 ns:w.ownsRow w0.heap.size 138 1 nv k (gw K k)
 nds:∀i,i<k->ND w0 w C (K i) i zs (jc 512) 0
 brk:w.ownsMap prog 172 (unitElem (H:=Unit)) mb 0 (.map [])
 cx:C xb=1001
 cw:C wb=1002
 cm:C mb=1004
 cn:∀g,nv.ownBlock=some g->C g=1003
 lt:∀x,C x<2000->x<w.heap.size
 low:∀x,C x<2000->w0.heap.size<=x
section
variable {w0 w w':World} {C C':Nat→Nat} {xb wb wc mb k:Nat} {nv:Value} {K:Nat→NB} {zs:List Int} {A:Nat→Addr}
theorem WN.later(h:WN w0 w C xb wb wc mb nv K zs k)(b:Below w.heap.size w w'):WN w0 w' C xb wb wc mb nv K zs k:=by
 have c:Kept (fun _=>False) w w':=Kept.of_below b;exact⟨h.bel.trans (b.mono h.bel.size),c.row h.row (fun a=>a),fun d e=>aI (h.ws d e) c (fun a=>a),aV h.ns c (fun _ _ a=>a),fun d e=>(h.nds d e).later b,fB h.brk c (fun a=>a),h.cx,h.cw,h.cm,h.cn,fun a f=>bm (h.lt a f) b.size,h.low⟩
theorem WN.recolor(h:WN w0 w C xb wb wc mb nv K zs k)(m:k<=9)(a:∀x,C x<2000->C' x=C x)(d:∀x,C' x<2000->x<w.heap.size)(e:∀x,C' x<2000->w0.heap.size<=x):WN w0 w C' xb wb wc mb nv K zs k:=by
 have f:=h.cx;have g:=h.cw;have i:=h.cm;exact⟨h.bel,h.row,h.ws,h.ns,fun j l=>(h.nds j l).recolor (by omega) a,h.brk,(a _ (by omega)).trans f,(a _ (by omega)).trans g,(a _ (by omega)).trans i,fun b c=>(a b (by have:=h.cn b c;omega)).trans (h.cn b c),d,e⟩
theorem xF(n:Nat):NI n (jc 512) 0:=by
 have a:=abA 512 (by decide);exact⟨a.good,a.num,dk 512,fun _=>rfl,by show(-2:Int)<=-1;omega,by show(-1:Int)<=_;omega,fun c d b=>by cases b⟩
theorem WN.done(h:WN w0 w C xb wb wc mb nv K zs zs.length)(b:bT zs=0):∃c d,nv=.slice (some ⟨c,0,none⟩) zs.length d∧WD w0 w C ⟨xb,wb,wc,c,d,mb,.slice none 0 0,.slice none 0 0,K⟩ zs dM 0:=by
 have m:=(bp b).1;rcases h.ns.2 with⟨-,n⟩|⟨e,cap,o,g,p,q,r,s,t,u⟩
 ·omega
 ·subst g
  refine⟨e,cap,rfl,⟨h.bel,h.row,h.ws,fun f i=>?_,h.nds,⟨_,h.brk,fun v x _ _ y _=>rfl⟩,.inl ⟨rfl,rfl⟩,World.ownsRow_nil _ _ _ _,h.cx,h.cw,h.cn e rfl,h.cm,fun j a=>(by cases a),fun j a=>(by cases a),h.lt,h.low,⟨b,fun f _=>xF _,fun z l=>(by cases l),Nat.zero_le _,Nat.zero_le _⟩⟩⟩;have:=h.ns.cellAt f (by omega);rw[this];unfold gw;rw[List.getElem?_map,List.getElem?_range i];rfl
def uN(nd s j mb p q:Nat):NB:=⟨nd,s,j,mb,p,q,fun _=>0,fun _=>0,fun _=>0⟩
def rG(K:Nat->NB)(k:Nat)(x:NB):Nat->NB:=fun e=>if e=k then x else K e
theorem WN.add{g l:World}{i s j m p q:Nat}{n:Value}(h:WN w0 w C xb wb wc mb nv K zs k)(hk:k<7)(B:Below w.heap.size w g)(F:g.heap[i]?=some (.cells #[.pointer (some ⟨s,0,none⟩),.pointer none,.pointer none,.pointer none,.pointer none,.pointer none,.pointer none] 152 (0,0)))(Q:SP w0 g s j m p q k (fun _=>false) 0 (au (bQ 512).data.toList) false (bQ 512) (-1))(hq:w.heap.size<=q)(b2:q<p)(b3:p<j)(b4:j<m)(b5:m<s)(b6:s<i)(G:l.ownsRow w0.heap.size 138 1 n (k+1) (gw K k++[.pointer (some ⟨i,0,none⟩)]))(D:g.grownBy l nv.ownBlock)(R:n.ownBlock=nv.ownBlock∨n.ownBlock=some g.heap.size):∃C',WN w0 (l.setCell ⟨xb,1,none⟩ n) C' xb wb wc mb n (rG K k (uN i s j m p q)) zs (k+1):=by
 have b7:=ah F;have b8:=h.bel.size;obtain⟨c,o⟩:∃c,c=bV (bV (bV (bV (bV (bV C q (100*k+6)) p (100*k+5)) j (100*k+3)) m (100*k+4)) s (100*k+2)) i (100*k+1):=⟨_,rfl⟩;have S:c i=100*k+1:=by rw[o,bw]
 have T:c s=100*k+2:=by rw[o,aq (by omega),bw]
 have U:c m=100*k+4:=by rw[o,aq (by omega),aq (by omega),bw]
 have V:c j=100*k+3:=by rw[o,aq (by omega),aq (by omega),aq (by omega),bw]
 have W:c p=100*k+5:=by rw[o,aq (by omega),aq (by omega),aq (by omega),aq (by omega),bw]
 have X:c q=100*k+6:=by rw[o,aq (by omega),aq (by omega),aq (by omega),aq (by omega),aq (by omega),bw]
 have H:∀a,a<w.heap.size->c a=C a:=fun a b=>by rw[o,aq (by omega),aq (by omega),aq (by omega),aq (by omega),aq (by omega),aq (by omega)]
 have I:∀a,c a<2000->a<w.heap.size∨(q<=a∧a<=i):=fun a b=>by
  by_cases Y:a=i
  ·right;omega
  ·by_cases Z:a=s
   ·right;omega
   ·by_cases a3:a=m
    ·right;omega
    ·by_cases a4:a=j
     ·right;omega
     ·by_cases a5:a=p
      ·right;omega
      ·by_cases a6:a=q
       ·right;omega
       ·rw[o,aq Y,aq Z,aq a3,aq a4,aq a5,aq a6]at b
        exact .inl (h.lt a b)
 have e:=(h.later B).recolor (C':=c) (by omega) (fun a b=>H a (h.lt a b)) (fun a b=>by have:=B.size;rcases I a b with f|f<;>omega) (fun a b=>by
  rcases I a b with f|f
  ·exact h.low a (by rw[<-H a f];exact b)
  ·omega)
 have hN:ND w0 g c (uN i s j m p q) k zs (jc 512) 0:=⟨F,Q,fun a0 hd a b=>(by cases b),S,T,V,U,W,X,fun a0 hd a b=>(by cases b),by show w0.heap.size<=i;omega⟩;have J:=bZ D;have a1:=e.cx;have a2:=e.cw;have a7:=e.cm;obtain⟨r,t,a8,a9,L⟩:∃r:Nat->Nat,(∀a,c a<2000->r a=c a)∧(∀a,r a<2000->a<l.heap.size)∧(∀a,r a<2000->w0.heap.size<=a)∧∀f,n.ownBlock=some f->r f=1003:=by
  rcases R with u|u
  ·refine⟨c,fun _ _=>rfl,fun a b=>bm (e.lt a b) D.size,e.low,fun f v=>e.cn f (by rw[<-u];exact v)⟩
  ·have b0:g.heap.size<l.heap.size:=kt G u
   refine⟨bV c g.heap.size 1003,fun a b=>aq (by have:=e.lt a b;omega),fun a b=>?_,fun a b=>?_,fun f v=>?_⟩
   ·by_cases d:a=g.heap.size
    ·rw[d];exact b0
    ·rw[aq d]at b;exact bm (e.lt a b) D.size
   ·by_cases d:a=g.heap.size
    ·rw[d];have:=B.size;omega
    ·rw[aq d]at b;exact e.low a b
   ·rw[u]at v
    obtain rfl:=bF v;exact bw _ _ _
 have x:Kept (fun a=>nv.ownBlock=some a∨a=xb) g (l.setCell ⟨xb,1,none⟩ n):=(J.mono (fun a b=>.inl b)).setCell (.inr rfl) _;have M:∀a,(nv.ownBlock=some a∨a=xb)->c a=1003∨c a=1001:=fun a b=>by
  rcases b with b|rfl
  ·exact .inl (e.cn a b)
  ·exact .inr e.cx
 have E:∀a,c a≠1003->c a≠1001->¬(nv.ownBlock=some a∨a=xb):=fun a n1 n2 b=>by rcases M a b with f|f<;>omega
 have N:∀a,(nv.ownBlock=some a∨a=xb)->w0.heap.size<=a:=fun a b=>e.low a (by rcases M a b with f|f<;>omega)
 have O:∀(a:NB) (d:Nat),d<=9->ND w0 g c a d zs (jc 512) 0->ND w0 (l.setCell ⟨xb,1,none⟩ n) r a d zs (jc 512) 0:=fun a d y b=>(b.kept x (fun z _ P=>E z (by omega) (by omega)) N).recolor y t
 refine⟨r,⟨x.below e.bel.size N e.bel,?_,fun d y=>aI (e.ws d y) x (E _ (by show c wb≠_;omega) (by show c wb≠_;omega)),?_,fun d y=>?_,fB e.brk x (E _ (by omega) (by omega)),(t _ (by omega)).trans a1,(t _ (by omega)).trans a2,(t _ (by omega)).trans a7,L,fun a b=>?_,a9⟩⟩
 ·have b1:=J.row e.row (fun d=>by have:=e.cn _ d;omega)
  rw[aE l xb 1 _ _ _ b1];rfl
 ·have e1:gw (rG K k (uN i s j m p q)) (k+1)=gw K k++[pV i]:=by
   rw[xh,wg (L:=K) (fun b9 hi=>by unfold rG;rw[aa (by omega)])];unfold rG uN;rw[af rfl]
  rw[e1];refine aV G ((Kept.refl (In1 xb) l).set1 1 n) (fun z P d=>?_);have h3:=L z P;rw[show z=xb from d,t _ (by omega)]at h3;omega
 ·by_cases f:d=k
  ·subst f
   have:=O _ d (by omega) hN;unfold rG;rw[af rfl];exact this
  ·have:=O _ d (by omega) (e.nds d (by omega))
   unfold rG;rw[aa f];exact this
 ·have:=a8 a b
  simpa using this
theorem adQ(v:Value)(c:Nat)(a:IsSl w v zs)(b:Held9 w A)(d:bT zs=c+1):Calls prog 98 #[v] w fun e w'=>e=.returned (.tuple #[.pointer none,.iface 318 (.pointer (some (A c)))])∧w'=w:=by
 have f:Hid (Calls prog 153 #[v] w fun e w'=>e=.returned (.iface 318 (.pointer (some (A c))))∧w'=w):=by
  have:=nO A v zs w a b.to3;rw[d]at this;exact this
 obtain⟨h,i,rfl,-,-,-⟩:=a;clear b d
 go_enter func98,ntmps98
 go_wp2_with fail
 refine f.mono ?_;rintro e g ⟨rfl,j⟩;subst g
 go_wp2_with fail
 go_ret2
 exact⟨rfl,rfl⟩
theorem nM{w:World}{ops:Array Oper}{rest:List Oper}{o:Oper}{a:Act}{Q:Exit->Act->World->Prop}(m:o.guard=none)(s x:Operand)(p:o.op=.call { callee:=.builtin .append,args:=#[s,x],argTypes:=#[145,145] })(base n:Nat)(v:Value)(f:Addr)(c:Nat)(xs:List Value)(e:Value)(q:e.oneCell'=true)(r:a.eval s=v)(t:a.eval x=.slice (some f) 1 c)(u:w.ownsRow base 138 1 v n xs)(y:w.cell? (f.add 0)=some e)(N:n<=1000000)(z:base<=w.heap.size)(h:∀b d w',w'.ownsRow base 138 1 (.slice b (n+1) d) (n+1) (xs++[e])->w.grownBy w' v.ownBlock->((Value.slice b (n+1) d).ownBlock=v.ownBlock∨(Value.slice b (n+1) d).ownBlock=some w.heap.size)->wpList prog ops Q rest (a.put o.dst (.slice b (n+1) d)) w'):wpList prog ops Q (o::rest) a w:=by
 obtain⟨B,D,E,F,G⟩:=info_parts Tryz.infoPN;refine wpList_append_own_at w m s x 145 p base 138 B _ 1 8 underlying145 D E F G rfl (by decide) v n xs r u f 1 c [e] t rfl (fun g H i=>?_) (fun H I=>by rw[List.mem_singleton.1 I];exact q) (by unfold maxLen;omega) (by omega) z ?_
 ·cases g with
  | zero=>rw[<-bF i];exact y
  | succ g=>simp at i
 ·intro J w' j L _ M
  obtain⟨b,d,rfl⟩:∃b d,J=.slice b (n+1) d:=by
   rcases j.2 with⟨l,O⟩|⟨P,cap,R,l,-⟩
   ·omega
   ·exact⟨_,_,l⟩
  exact h b d w' j L M
theorem agD(v:Value)(J:IsSl w v zs)(L:Held9 w A)(z:bT zs=0):Calls prog 98 #[v] w fun e w'=>∃C X,e=.returned (.tuple #[.pointer (some ⟨X.xb,0,none⟩),.nilIface])∧WD w w' C X zs dM 0:=by
 have B:=bp z;have S:=hid (uk A v zs w J L.to3 z);have T:Hid (Calls prog 154 #[v] w fun e w'=>∃wb wc,e=.returned (.slice (some ⟨wb,0,none⟩) zs.length wc)∧w'.ownsRow w.heap.size 3 1 (.slice (some ⟨wb,0,none⟩) zs.length wc) zs.length (zs.map (Value.int .i64))∧bW w w'):=by
  refine(sS v zs w J B.1 (by omega)).mono ?_;rintro e w' ⟨v',b0,s,hb⟩;obtain⟨f,h,rfl,-⟩:=s.form (by omega);exact⟨f,h,b0,s,hb⟩
 have HE:=hid L;have HZ:=hid z;obtain⟨i,D⟩:=nmd (zs.length);obtain⟨c8,c9,rfl,b1,-,-⟩:=J;have n7:=B.2.1;have n1:=B.1;have d0:=@run_makeMap prog;rw[D.out]at S T n7 n1 b1 ⊢;clear L z B
 go_enter func98,ntmps98
 go_wp2_with fail
 refine S.mono ?_;rintro e a ⟨rfl,m⟩;subst a
 go_wp2_with fail
 refine T.mono ?_;rintro e a ⟨wb,wc,rfl,M,E⟩;have b2:=(M.lt wb rfl);obtain⟨n,o⟩:=nmd ((a.alloc (.map #[] 0)).alloc (.cells #[.slice (some ⟨wb,0,none⟩) i wc,.slice none 0 0,.map (some a.heap.size),.slice none 0 0,.slice none 0 0] 148));have d1:=o.out;have b3:Hid (∃C,WN w n C (a.heap.size+1) wb wc a.heap.size (.slice none 0 0) (fun _=>uN 0 0 0 0 0 0) zs 0):=by
  have U:bW a n:=by rw[<-o.out];exact(aD).alloc (by simp) _
  have d2:n.heap.size=a.heap.size+2:=by rw[<-o.out];simp
  obtain⟨j,F⟩:∃j,j=bV (bV (bV (fun _=>5000) (a.heap.size+1) 1001) wb 1002) a.heap.size 1004:=⟨_,rfl⟩;have k1:j (a.heap.size+1)=1001:=by rw[F,aq (by omega),aq (by omega),bw]
  have k2:j wb=1002:=by rw[F,aq (by omega),bw]
  have k3:j a.heap.size=1004:=by rw[F,bw]
  have V:∀c,j c<2000->c=a.heap.size+1∨c=wb∨c=a.heap.size:=fun c m=>by
   by_cases W:c=a.heap.size
   ·exact .inr (.inr W)
   ·by_cases Y:c=wb
    ·exact .inr (.inl Y)
    ·by_cases Z:c=a.heap.size+1
     ·exact .inl Z
     ·rw[F,aq W,aq Y,aq Z]at m;omega
  refine⟨j,⟨E.trans (U.mono E.size),?_,fun N G=>?_,World.ownsRow_nil _ _ _ _,fun N G=>absurd G (Nat.not_lt_zero _),?_,k1,k2,k3,fun f l=>(by cases l),fun c m=>?_,fun c m=>?_⟩⟩
  ·have b4:(a.alloc (.map #[] 0)).heap.size=a.heap.size+1:=by simp
   rw[<-o.out,<-b4,D.out];exact aB _ _
  ·have:=M.cellAt N (by rw[<-D.out];omega)
   rw[Nat.zero_add];refine ag U (this.trans ?_);rw[List.getElem?_map,cG G,fw zs N G];rfl
  ·rw[<-o.out]
   exact(World.ownsMap_made a _ _ _).alloc _
  ·rcases V c m with f|f|f<;>omega
  ·have:=E.size
   rcases V c m with f|f|f<;>omega
 have d3:a.heap.size+1<n.heap.size:=by rw[<-o.out];simp
 clear M E b2
 go_wp2_with fail
 go_loopw [22] (fun v wr=>∃k:Nat,k<=i∧v=iV (k:Int)∧∃C nv K,WN w wr C (a.heap.size+1) wb wc a.heap.size nv K zs k) (fun v _=>i-(intOf v).toNat)
 case atStart =>
  obtain⟨C,hC⟩:=b3.out;exact⟨0,Nat.zero_le _,rfl,C,_,_,hC⟩
 case round =>
  obtain⟨k,hk,rfl,C,nv,K,p⟩:=hrel;have t:=hid p;obtain⟨q,h,u⟩:∃q h,Hid (nv=.slice q k h):=by
   rcases p.ns.2 with⟨e,h0⟩|⟨f,cap,d4,e,-⟩
   ·exact⟨none,0,by rw[e,h0];exact rfl⟩
   ·exact⟨_,_,e⟩
  clear p
  by_cases d5:k<i
  ·go_wp2_with fail
   refine(xm 512 wr (by decide)).mono ?_;rintro e w3 ⟨rfl,a0,O,d6⟩;have P:=hid (t.later O);have a1:=hid a0;have a2:=hid O;have b5:=hid (HE.later P.bel);clear a0 O
   go_wp2_with fail
   refine(yh A (k:Int) _ _ _ (-1) w3 a1 b5.toE (by rw[dk];decide) (by rw[dk];decide) (by decide) (by omega) (by omega)).mono ?_;rintro e b ⟨Q,j',d7,rfl,hj,a3,x,b6,a4,a5⟩;have a6:=hid (ac5 (w0:=w) P.bel a1 (by have:=t.bel.size;omega) (t.bel.size) hj a3 x b6 a4 a5 (by decide) (by decide) (by rw[dk];decide) (by rw[dk];decide));have r:=hid (P.later x);have c1:b.cell? ⟨a.heap.size+1,1,none⟩=some nv:=by rw[ai r.out.row];rfl
   rw[u.out]at c1;obtain⟨g,H⟩:=nmd (b.alloc (.cells #[pV Q,.pointer none,.pointer none,.pointer none,.pointer none,.pointer none,.pointer none] 152));obtain⟨d,R⟩:=nmd (g.alloc (.cells #[pV b.heap.size] 138));have b7:g.heap.size=b.heap.size+1:=by rw[<-H.out];simp
   have a7:Hid (bW b g):=by rw[<-H.out];exact aD
   have a8:Hid (bW g d):=by rw[<-R.out];exact aD
   have y:Hid (bW b d):=a7.trans (a8.mono a7.size);have b8:Hid (d.heap[b.heap.size]?=some (.cells #[pV Q,.pointer none,.pointer none,.pointer none,.pointer none,.pointer none,.pointer none] 152 (0,0))):=by
    have h5:g.heap[b.heap.size]?=some (.cells #[pV Q,.pointer none,.pointer none,.pointer none,.pointer none,.pointer none,.pointer none] 152 (0,0)):=by rw[<-H.out];exact aB b _
    exact(a8.block _ (ah h5)).trans h5
   have b9:Hid (d.cell? ((⟨b.heap.size+1,0,none⟩:Addr).add 0)=some (pV b.heap.size)):=by
    rw[cZ,<-b7,<-R.out,ai (aB g _)];rfl
   have c0:Hid (d.ownsRow w.heap.size 138 1 (.slice q k h) k (gw K k)):=by have:=(r.later y).ns;rw[u.out]at this;exact this
   have HX:Hid (∀w',d.grownBy w' (Value.slice q k h).ownBlock->w'.cell? ⟨a.heap.size+1,1,none⟩=some (.slice q k h)∧w'.frozen? ⟨a.heap.size+1,1,none⟩=false):=by
    intro w' l;have hr:=(bZ l).row (r.later y).row (fun e=>by rw[<-u.out]at e;have h1:=r.cn _ e;have h2:=r.cx;omega);exact⟨by rw[ai hr,<-u.out];rfl,dN hr⟩
   have c2:w.heap.size<=d.heap.size:=(r.later y).bel.size;have c3:Hid (bW wr d):=a2.trans ((x.trans (y.mono x.size)).mono a2.size);have c4:=hid (a6.later y);have c5:=a6.lts;have d8:=H.out;have d9:=R.out;clear hj a3 x
   go_wp2_with (at_builtin;refine nM rfl _ _ rfl w.heap.size k (.slice q k h) ⟨b.heap.size+1,0,none⟩ 1 (gw K k) (pV b.heap.size) rfl rfl rfl c0 b9 (by omega) c2 ?_;intro e0 e1 w' a9 l s;obtain⟨e2,e3⟩:=HX.out w' l;have I:=hid (And.intro a9 (And.intro l s));clear a9 l s)
   go_roundw
   case rel =>
    rw[<-u.out]at I;obtain⟨C',c6⟩:=t.add (by omega) c3 b8 c4 (by omega) (by omega) (by omega) a4 a5 c5.1 I.1 I.2.1 I.2.2;exact⟨k+1,by omega,by go_num,C',_,_,c6⟩
   case measure=>simp[intOf];omega
  ·obtain rfl:k=i:=by omega
   go_wp2_with fail
   go_ret2
   have p:=t.out;rw[<-D.out]at p;obtain⟨nb,nc,-,c7⟩:=p.done HZ;exact⟨C,_,rfl,c7⟩
end
theorem sy{zs:List Int}{V:PX}(f:AX zs V):EvF zs.length V.evs 0 V.evs.length:=by
 refine⟨fun b c _=>?_,.inl ⟨rfl,rfl⟩⟩;obtain⟨g,o,C,p,q,w,l,D⟩:=f.ex.at_ (V.evs[b]'c) (List.getElem_mem c);have r:∀a,a∈V.evs.take b->a∈V.evs∧¬(a.s=(V.evs[b]'c).s∧a.d=(V.evs[b]'c).d):=by
  intro a d;refine⟨List.mem_of_mem_take d,?_⟩;have s:=f.ex.once;rw[<-List.take_append_drop b V.evs,List.pairwise_append]at s;exact s.2.2 a d _ (by rw[List.drop_eq_getElem_cons c];exact List.mem_cons_self)
 obtain⟨E,h⟩:=f.gx o w;have x:bdB zs.length (V.evs[b]'c)=true:=by rw[p];exact bo ⟨⟨by simp only;omega,by simp only;omega⟩,⟨by simp only;omega,by simp only;omega⟩,by simp only;omega⟩
 have y:spB (V.evs.take b) (V.evs[b]'c)=false:=by
  unfold spB;rw[List.any_eq_false];intro a d m;obtain⟨i,j⟩:=cK m;obtain⟨k,e,F,z,t,G,n,H⟩:=f.ex.at_ a (r a d).1;rw[p,z]at i j;simp only at i j;have A:e=o:=by omega
  subst A;have u:=h.co.s2;have v:=h.co.s3;rcases l with l|l<;>rcases n with n|n
  ·omega
  ·exact h.co.split (u g q (by show(stN (V.nd g) e).ph=2;omega)) (v k t (by show(stN (V.nd k) e).ph=3;omega))
  ·exact h.co.split (u k t (by show(stN (V.nd k) e).ph=2;omega)) (v g q (by show(stN (V.nd g) e).ph=3;omega))
  ·omega
 have B:heB (V.evs.take b) (V.evs[b]'c)=false:=by
  unfold heB;rw[List.any_eq_false];intro a d m;obtain⟨i,j⟩:=cK m;exact(r a d).2 ⟨j,i⟩
 unfold evC;rw[aa (by rw[x];decide),aa (by rw[y];decide),aa (by rw[B];decide)]
def cnt(st:Nat->St):Nat->Nat
 | 0=>0
 | k+1=>cnt st k+if aT (st k).ph=true then 1 else 0
theorem ac0(st:Nat->St):∀k,cnt st k<=k
 | 0=>aj
 | k+1=>by have:=ac0 st k;unfold cnt;split<;>omega
theorem vl{st a:Nat->St}:∀{k:Nat},(∀i,i<k->(a i).ph=(st i).ph)->cnt a k=cnt st k
 | 0,_=>rfl
 | k+1,h=>by unfold cnt;rw[vl fun i b=>h i (by omega),h k (by omega)]
theorem xE(st:Nat->St)(i:Nat)(t:St):∀k,i<k->cnt (upd st i t) k+(if aT (st i).ph=true then 1 else 0)=cnt st k+if aT t.ph=true then 1 else 0
 | 0,h=>absurd h (Nat.not_lt_zero _)
 | k+1,h=>by
  unfold cnt
  by_cases e:i=k
  ·subst e
   rw[gI,vl (st:=st) fun j a=>by rw[iU _ _ _ (by omega)]];omega
  ·have:=xE st i t k (by omega)
   rw[iU _ _ _ (by omega:k≠i)];omega
structure CW (zs:List Int) (d s p:Nat) (rf:Nat->Bool) (V:PX) (m:Nat) (st:Nat->St) (P:PL) (fly:List F9):Prop where
 xi:XI zs V m
 l:∀i,i<zs.length->(V.nd i).l=-1
 r:∀i,i<zs.length->(V.nd i).R d=rf i
 ec:V.evs.length=cnt st zs.length
 ev:∀e,e∈V.evs->e.d=(d:Int)∧e.p=(p:Int)
 st:∀i,i<zs.length->stN (V.nd i) d=st i
 ld:(V.nd s).ld d=some (0,P)
 br:∀a b,V.br a b=false
 fly:V.fly=fly
section
variable {zs:List Int} {d s p m:Nat} {rf:Nat→Bool} {V:PX} {st:Nat→St} {P:PL} {rest:List F9} {f:F9}
theorem CW.reach(h:CW zs d s p rf V m st P (f::rest))(a:f.t.toNat<zs.length):gV V f=true:=by
 unfold gV brX upN;rw[h.l _ a,h.br];simp
theorem CW.take(h:CW zs d s p rf V m st P (f::rest)):(ay V 0).fly=rest:=by
 show V.fly.eraseIdx 0=rest;rw[h.fly];rfl
theorem CW.site(h:CW zs d s p rf V m st P (f::rest))(hm:m<1000000)(O:f.d=(d:Int)){i:Nat}(ht:f.t=(i:Int))(e:i<zs.length)(g:fO f.k=false)(Q:aT (aO (st i) (rf i) f.k.toNat f.a.toNat f.ph.toNat).st.ph=true->(aO (st i) (rf i) f.k.toNat f.a.toNat f.ph.toNat).st.ph=p):CW zs d s p rf (aX zs V 0 f) (m+2) (upd st i (aO (st i) (rf i) f.k.toNat f.a.toNat f.ph.toNat).st) P (rest++(if(aO (st i) (rf i) f.k.toNat f.a.toNat f.ph.toNat).k≠0 then[ct i f (aO (st i) (rf i) f.k.toNat f.a.toNat f.ph.toNat)]else[])):=by
 have R:f.t.toNat=i:=by rw[ht];exact aU i
 have n:f.d.toNat=d:=by rw[O];exact aU d
 have S:f∈V.fly:=by rw[h.fly];exact List.mem_cons_self
 have j:=h.xi.fr f S;have r:XI zs (ay V 0) m:=h.xi.take;have t:((ay V 0).nd i).l≠-2:=by show(V.nd i).l≠-2;rw[h.l i e];decide
 have o:=fY (r.nd i e) t j (by omega);have z:stN ((ay V 0).nd i) f.d.toNat=st i:=by rw[n];exact h.st i e
 have k:gHN ((ay V 0).nd i) f=aO (st i) (rf i) f.k.toNat f.a.toNat f.ph.toNat:=by
  unfold gHN;rw[z,n,show((ay V 0).nd i).R d=rf i from h.r i e]
 have u:=r.nd i e;have A:=adx (B:=((ay V 0).nd i).B) (d:=d) (s:=(aO (st i) (rf i) f.k.toNat f.a.toNat f.ph.toNat).st) (by have:=u.sz;omega) (by have:=j.ok.2.2.1;omega) (by have:=u.nm d (by have:=j.ok.2.2.1;omega);have F:(au ((ay V 0).nd i).B.data.toList d).1<=m:=this;omega);have T:((ay V 0).nd i).over=false:=u.up t;have U:((ay V 0).nd i).l=-1:=h.l i e;have G:=o.good;rw[k]at G;have B:oHN ((ay V 0).nd i) f=bK (au ((ay V 0).nd i).B.data.toList) ((ay V 0).nd i).B (-1) d (aO (st i) (rf i) f.k.toNat f.a.toNat f.ph.toNat).st:=by
  unfold oHN;rw[k,T,U,n];unfold ig;rw[aa (by decide),af ⟨by have:=j.ok.2.2.1;omega,jW G⟩];simp only[aU];rfl
 have C:(oHN ((ay V 0).nd i) f).c=0:=by rw[B];exact A.1
 have W:(oHN ((ay V 0).nd i) f).l=-1:=by rw[B];exact A.2
 have v:aM ((ay V 0).nd i) f={ (ay V 0).nd i with B:=(oHN ((ay V 0).nd i) f).b,l:=(oHN ((ay V 0).nd i) f).l,over:=(oHN ((ay V 0).nd i) f).over }:=by
  unfold aM;rw[aa (by omega)]
 have H:ca i ((ay V 0).nd i) f=if(aO (st i) (rf i) f.k.toNat f.a.toNat f.ph.toNat).k≠0 then[ct i f (aO (st i) (rf i) f.k.toNat f.a.toNat f.ph.toNat)]else[]:=by
  unfold ca;rw[k]
  by_cases w:(aO (st i) (rf i) f.k.toNat f.a.toNat f.ph.toNat).k≠0
  ·rw[af ⟨C,w⟩,af w]
   rfl
  ·rw[aa (fun c=>w c.2),aa w]
 have I:aX zs V 0 f=aW (aQ (ay V 0) i f) (ca i ((ay V 0).nd i) f):=by
  unfold aX de cX;rw[af (h.reach (by omega)),aa (by rw[g];decide),aa (by rw[g];decide),R]
 have X:∀a,a<zs.length->stN ((aQ (ay V 0) i f).nd a) d=upd st i (aO (st i) (rf i) f.k.toNat f.a.toNat f.ph.toNat).st a:=by
  intro a g;have:=congrFun (pN (V:=ay V 0) (i:=i) o C) a;rw[n]at this;have F:stN ((aQ (ay V 0) i f).nd a) d=upd (stD (ay V 0) d) i (gHN ((ay V 0).nd i) f).st a:=this;rw[F,k];unfold upd
  split
  ·rfl
  ·exact h.st a g
 have J:=r.hear t j (by omega) e;have K:∀c,c∈ca i ((ay V 0).nd i) f->FI zs.length c:=kj (r.nd i e) t j (by omega) (by rw[ht]);have Y:=XI.send J K (by rw[H];split<;>simp)
 rw[I,<-H];have L:=o.may;rw[z,k]at L;have M:(aQ (ay V 0) i f).evs=noteE V.evs i d (st i).ph (aO (st i) (rf i) f.k.toNat f.a.toNat f.ph.toNat).st.ph:=by
  show noteE V.evs i f.d.toNat (stN ((ay V 0).nd i) f.d.toNat).ph (stN (aM ((ay V 0).nd i) f) f.d.toNat).ph=_;rw[z,o.yes C,k,n]
 have D:=xE st i (aO (st i) (rf i) f.k.toNat f.a.toNat f.ph.toNat).st zs.length e;have b1:=ac0 st zs.length;have n7:=(bp h.xi.he).2.1;have Z:∀a,a<zs.length->((aQ (ay V 0) i f).nd a).l=-1:=by
  intro a g;show((aA (ay V 0) i (aM ((ay V 0).nd i) f)).nd a).l=-1
  by_cases b:a=i
  ·subst b;rw[eA,v];exact W
  ·rw[fE _ _ _ b];exact h.l a g
 have a0:∀a,a<zs.length->((aQ (ay V 0) i f).nd a).R d=rf a:=by
  intro a g;show((aA (ay V 0) i (aM ((ay V 0).nd i) f)).nd a).R d=rf a
  by_cases b:a=i
  ·subst b;rw[eA,v];exact h.r a g
  ·rw[fE _ _ _ b];exact h.r a g
 have a1:((aQ (ay V 0) i f).nd s).ld d=some (0,P):=by
  show((aA (ay V 0) i (aM ((ay V 0).nd i) f)).nd s).ld d=some (0,P)
  by_cases b:s=i
  ·subst b;rw[eA,v];exact h.ld
  ·rw[fE _ _ _ b];exact h.ld
 have a2:∀a3 a4,(aQ (ay V 0) i f).br a3 a4=false:=h.br;have a5:(aQ (ay V 0) i f).fly=rest:=h.take;generalize aQ (ay V 0) i f=E at *
 generalize ca i ((ay V 0).nd i) f=N at *
 clear v B o A J K I u;generalize hO:(aO (st i) (rf i) f.k.toNat f.a.toNat f.ph.toNat).st=x at *
 have a6:E.evs.length=cnt (upd st i x) zs.length:=by
  rw[M];unfold noteE;have b2:=h.ec;unfold jv at L
  split
  ·rename_i l
   have a7:aT (st i).ph=false:=by
    refine aS fun c=>l.1 ?_
    omega
   rw[aa (by rw[a7];decide),af l.2.1]at D;rw[aR,List.length_singleton];omega
  ·rename_i l
   by_cases y:aT x.ph=true
   ·have a8:x.ph=(st i).ph:=by
     refine Classical.byContradiction fun c=>l ⟨c,y,?_⟩
     omega
    rw[<-a8,af y]at D;omega
   ·have a9:aT (st i).ph=false:=by
     refine aS fun c=>y (bo ?_)
     omega
    rw[aa y,aa (by rw[a9];decide)]at D;omega
 have b0:∀b,b∈E.evs->b.d=(d:Int)∧b.p=(p:Int):=by
  intro b q;rw[M]at q;unfold noteE at q
  split at q
  ·rename_i l
   rcases List.mem_append.1 q with c|c
   ·exact h.ev b c
   ·rw[List.mem_singleton]at c
    subst c;exact⟨rfl,by show(x.ph:Int)=p;rw[Q l.2.1]⟩
  ·exact h.ev b q
 exact⟨Y,Z,a0,a6,b0,X,a1,a2,by show E.fly++N=rest++N;rw[a5]⟩
theorem CW.lead(h:CW zs d s p rf V m st P (f::rest))(n:f.d=(d:Int))(ht:f.t=(s:Int))(e:s<zs.length)(b:fO f.k=true):CW zs d s p rf (aX zs V 0 f) (m+1) st (aL zs s d 0 P f).1 (rest++dm s d 0 zs.length (aL zs s d 0 P f).2):=by
 have o:f.t.toNat=s:=by rw[ht];exact aU s
 have q:f.d.toNat=d:=by rw[n];exact aU d
 have r:f∈V.fly:=by rw[h.fly];exact List.mem_cons_self
 have j:=h.xi.fr f r;have t:XI zs (ay V 0) m:=h.xi.take;have k:((ay V 0).nd s).ld d=some (0,P):=h.ld;have u:aX zs V 0 f=aW (dH zs (ay V 0) s d f) (dq zs (ay V 0) s d f):=by
  unfold aX de cX;rw[af (h.reach (by omega)),af b,af b,o,q]
 have l:=t.lead j e (d:=d) (by have:=j.ok.2.2.1;omega);rw[u];have v:=(dV (zs:=zs) (f:=f) k).1;have w:=(dV (zs:=zs) (f:=f) k).2;rw[v,w]at l ⊢;generalize (aL zs s d 0 P f).1=c at *
 have g:∀a,(aA (ay V 0) s (aC ((ay V 0).nd s) d (0,c))).nd a=if a=s then aC (V.nd s) d (0,c)else V.nd a:=fun _=>rfl
 refine⟨l,fun a b=>?_,fun a b=>?_,h.ec,h.ev,fun a b=>?_,?_,h.br,?_⟩
 ·show((aA (ay V 0) s (aC ((ay V 0).nd s) d (0,c))).nd a).l=-1
  rw[g]
  split
  ·exact h.l s e
  ·exact h.l a b
 ·show((aA (ay V 0) s (aC ((ay V 0).nd s) d (0,c))).nd a).R d=rf a
  rw[g]
  split
  ·rename_i i;rw[i];exact h.r s e
  ·exact h.r a b
 ·show stN ((aA (ay V 0) s (aC ((ay V 0).nd s) d (0,c))).nd a) d=st a
  rw[g]
  split
  ·rename_i i;rw[i];exact h.st s e
  ·exact h.st a b
 ·show((aA (ay V 0) s (aC ((ay V 0).nd s) d (0,c))).nd s).ld d=_
  rw[eA,mG]
 ·show(ay V 0).fly++_=_
  rw[h.take]
end
def rL(g:Nat->F9)(k:Nat):List F9:=(List.range k).map g
def ajs(g:Nat->F9)(k n:Nat):List F9:=((List.range n).map g).drop k
theorem aa8(g:Nat->F9)(k:Nat):rL g (k+1)=rL g k++[g k]:=by simp[rL,List.range_succ]
theorem oC(id:Nat)(deal kind att ph:Int):∀n,toL id deal kind att ph n=rL (fun k=>⟨id,k,deal,kind,att,false,ph,0,0⟩) n
 | 0=>rfl
 | n+1=>by rw[toL,oC id deal kind att ph n,aa8]
section
variable {zs:List Int} {d s p m:Nat} {rf:Nat→Bool} {V:PX} {st:Nat→St} {P:PL}
def sf(s d:Nat)(i:Nat):F9:=⟨s,i,d,1,0,false,0,0,0⟩
def ajz(s d:Nat)(rf:Nat->Bool)(i:Nat):F9:=⟨i,s,d,2,0,!rf i,if rf i=true then 3 else 1,0,0⟩
end
theorem acQ(i d:Nat)(a:d<6):stN (dM.nd i) d=⟨0,0,0⟩:=by
 show(au (bQ 512).data.toList d).2=_;rw[iA 512 d (by omega)];rfl
structure RfI (zs:List Int) (V:PX) (d:Nat) (rf:Nat->Bool):Prop where
 l:∀i,i<zs.length->(V.nd i).l=-1
 r:∀i,i<zs.length->(V.nd i).R d=rf i
 st:∀i,i<zs.length->stN (V.nd i) d=⟨0,0,0⟩
 ld:∀i,i<zs.length->(V.nd i).ld d=none
 br:∀a b,V.br a b=false
 fly:V.fly=[]
 evs:V.evs=[]
section
variable {zs:List Int} {V:PX} {d s:Nat} {rf:Nat→Bool} {m:Nat}
theorem RfI.new(a:d<6):RfI zs dM d (fun _=>false):=⟨fun _ _=>rfl,fun _ _=>rfl,fun b _=>acQ b d a,fun _ _=>rfl,fun _ _=>rfl,rfl,rfl⟩
theorem RfI.up(h:RfI zs V d rf){i:Nat}(a:i<zs.length):upN (V.nd i)=true:=by
 unfold upN;rw[h.l i a];rfl
theorem RfI.beg(h:RfI zs V d rf)(c:s<zs.length)(f:d<6):eO zs.length V (s:Int) (d:Int)=0:=by
 unfold eO;rw[af ⟨⟨by omega,by omega⟩,by omega,by omega⟩,aU,aU,af (h.up c),aa ?_];unfold hU;rw[Bool.not_eq_true,List.any_eq_false];intro a e;have b:a<zs.length:=List.mem_range.1 e;rw[h.ld a b,h.st a b];decide
theorem RfI.cw(h:RfI zs V d rf)(i:XI zs (dP zs V s d) m)(p:Nat):CW zs d s p rf (dP zs V s d) m (fun _=>⟨0,0,0⟩) P0 (ajs (sf s d) 0 zs.length++rL (ajz s d rf) 0):=by
 have e:∀a,(dP zs V s d).nd a=if a=s then aC (V.nd s) d (0,P0)else V.nd a:=fun _=>rfl
 refine⟨i,fun a b=>?_,fun a b=>?_,?_,fun c j=>?_,fun a b=>?_,?_,h.br,?_⟩
 ·rw[e];split
  ·rename_i c;subst c;exact h.l a b
  ·exact h.l a b
 ·rw[e];split
  ·rename_i c;subst c;exact h.r a b
  ·exact h.r a b
 ·show V.evs.length=_
  rw[h.evs];have:∀f,cnt (fun _=>⟨0,0,0⟩) f=0:=by
   intro f
   induction f with
   | zero=>rfl
   | succ f k=>unfold cnt;rw[k];rfl
  exact(this _).symm
 ·have g:c∈V.evs:=j
  rw[h.evs]at g
  cases g
 ·rw[e];split
  ·rename_i c;subst c;exact h.st a b
  ·exact h.st a b
 ·rw[e,af rfl,mG]
 ·show V.fly++toL s d 1 0 0 zs.length=_
  rw[h.fly,oC,List.nil_append];show _=rL (sf s d) zs.length++[];rw[List.append_nil];rfl
end
end Go.Proofs.YtaehdgemkafinaaGreatDoor
