/-
  On the way to SPlaysProof: SH XA XB XC XD.
-/
import Derived.Test.YtaehdgemkafinaaGreatDoorBx23
import Derived.Test.YtaehdgemkafinaaGreatDoorBx24
set_option maxHeartbeats 8000000
set_option maxRecDepth 100000
namespace Go.Proofs.YtaehdgemkafinaaGreatDoor
open Go.RowKit
open Go.Proofs.Tryz
theorem RJ.lts{w:World}{m gn gs r:Nat}{E:Nat->Nat×St}{dead:Bool}(h:RJ w m gn gs r E dead):m<w.heap.size∧gn<w.heap.size∧gs<w.heap.size:=by
 obtain⟨⟨d,e,a⟩,⟨f,b,_⟩,⟨g,c,_⟩,_,_,_⟩:=h;exact⟨ah a,ah b,ah c⟩
theorem abu(w:World)(a o2:Obj):((w.alloc a).alloc o2).heap[w.heap.size]?=some a∧((w.alloc a).alloc o2).heap[w.heap.size+1]?=some o2∧Below w.heap.size w ((w.alloc a).alloc o2):=by
 have b:(w.alloc a).heap.size=w.heap.size+1:=by simp
 refine⟨?_,?_,(aD).alloc (by omega) _⟩
 ·rw[Below.heap_alloc _ _ _ (by omega)];exact aB w _
 ·rw[<-b];exact aB _ _
theorem uc(r:Nat)(B:ByteArray)(i j:Bool)(k id:Int)(w:World)(h:RP w r B i k j)(u:B.size<=1000)(v:216<=B.size):Calls prog 21 #[.int .i64 id,.pointer (some ⟨r,0,none⟩)] w fun e w'=>∃t m gn gs gb,e=.returned (.pointer (some ⟨t,0,none⟩))∧RJ w' m gn gs r (au B.data.toList) false∧RSt w' t m gb id (fun _=>false)∧Below w.heap.size w w'∧w.heap.size<=m∧w.heap.size<=gn∧w.heap.size<=gs∧w.heap.size<=gb∧t≠m∧t≠gn∧t≠gs∧t≠gb∧w.heap.size<=t∧gb≠m∧gb≠gn∧gb≠gs:=by
 have x:=hid h;clear h;have M:=adw;obtain⟨c,l⟩:=nmd (w.alloc (.cells #[.bool false,.bool false,.bool false,.bool false,.bool false,.bool false] 4));have n:Hid (Below w.heap.size w c):=by rw[<-l.out];exact aD
 have y:Hid (c.heap[w.heap.size]?=some (.cells #[.bool false,.bool false,.bool false,.bool false,.bool false,.bool false] 4 (0,0))):=by rw[<-l.out];exact aB w _
 have F:=hid (x.out.kept (S:=fun _=>False) (Kept.of_below n.out) (fun a=>a));have N:=l.out
 go_enter func21,ntmps21
 go_wp2_with fail
 go_region_held3 (fun _=>True) (trivial) (first|(go_at_call 80;(with_reducible refine(sR r B i j k _ x.out.drew u v).mono ?_);rintro e b ⟨m,gn,gs,rfl,g,d,o,p,q⟩)|(go_at_call 80;(with_reducible refine(sR r B i j k _ F.out.drew u v).mono ?_);rintro e b ⟨m,gn,gs,rfl,g,d,o,p,q⟩))
 all_goals go_wp2_with fail
 all_goals go_ret
 ·obtain⟨s,G,f⟩:=abu b (.cells #[.bool false,.bool false,.bool false,.bool false,.bool false,.bool false] 4) (.cells #[.int .i64 id,.pointer (some ⟨m,0,none⟩),.slice (some ⟨b.heap.size,0,none⟩) 6 6] 110)
  obtain⟨H,I,J⟩:=g.lts;have z:w.heap.size<=b.heap.size:=d.size;have A:w.heap.size<=m:=o;have C:w.heap.size<=gn:=p;have D:w.heap.size<=gs:=q;exact⟨b.heap.size+1,m,gn,gs,b.heap.size,rfl,g.kept (S:=fun _=>False) (Kept.of_below f) (fun a=>a) (fun a=>a) (fun a=>a),⟨G,s⟩,((Below.refl w.heap.size w).drew.trans d).trans (f.mono z),A,C,D,z,by omega,by omega,by omega,by omega,by omega,by omega,by omega,by omega⟩
 ·obtain⟨H,I,J⟩:=g.lts
  have O:c.heap.size<=b.heap.size:=d.size;have K:=ah y.out;have L:=n.out.size;have A:c.heap.size<=m:=o;have C:c.heap.size<=gn:=p;have D:c.heap.size<=gs:=q;have f:=(Below.refl b.heap.size b).alloc aj (.cells #[.int .i64 id,.pointer (some ⟨m,0,none⟩),.slice (some ⟨w.heap.size,0,none⟩) 6 6] 110);have s:b.heap[w.heap.size]?=some (.cells #[.bool false,.bool false,.bool false,.bool false,.bool false,.bool false] 4 (0,0)):=(d.block _ K).trans y.out;have E:Below w.heap.size w b:=n.out.drew.trans (d.mono L);exact⟨b.heap.size,m,gn,gs,w.heap.size,rfl,g.kept (S:=fun _=>False) (Kept.of_below f) (fun a=>a) (fun a=>a) (fun a=>a),⟨aB b _,(f.block _ (by omega)).trans s⟩,E.trans (f.mono E.size),by omega,by omega,by omega,aj,by omega,by omega,by omega,by omega,by omega,by omega,by omega,by omega⟩
theorem RSt.refuse{w:World}{t m gb d:Nat}{id:Int}{R:Nat->Bool}(h:RSt w t m gb id R)(a:d<6)(ht:t≠gb):RSt (w.setCell ⟨gb,d,none⟩ (.bool true)) t m gb id (fun e=>if e=d then true else R e):=by
 refine⟨by rw[dS _ _ _ _ ht];exact h.row,?_⟩;rw[aE w gb d _ _ (.bool true) h.refs];rcases six a with rfl|rfl|rfl|rfl|rfl|rfl<;>rfl
structure RB where
 nd:Nat
 t:Nat
 m:Nat
 gn:Nat
 gs:Nat
 gb:Nat
 r:Nat
 ls:Nat
 dn:Nat
 lb:Nat->Nat
 vh:Nat->Value
def dv(K:RB)(N:PN)(d:Nat):Value:=match N.ld d with
 | none=>.pointer none
 | some _=>.pointer (some ⟨K.lb d,0,none⟩)
theorem iu{K:RB}{N:PN}{d:Nat}(h:N.ld d=none):dv K N d=.pointer none:=by unfold dv;rw[h]
theorem gz{K:RB}{N:PN}{d:Nat}{x:Int×PL}(h:N.ld d=some x):dv K N d=.pointer (some ⟨K.lb d,0,none⟩):=by unfold dv;rw[h]
def rsV(K:RB)(N:PN):Value:=if upN N=true then .pointer (some ⟨K.t,0,none⟩)else .pointer none
def kB(K:RB)(N:PN):List Value:=[rsV K N,.pointer (some ⟨K.r,0,none⟩),.slice (some ⟨K.ls,0,none⟩) 6 6,.slice (some ⟨K.dn,0,none⟩) 6 6]
structure RN (w:World) (C:Nat->Nat) (K:RB) (i n cap:Nat) (aw:Option Addr) (N:PN):Prop where
 row:w.heap[K.nd]?=some (.cells (kB K N).toArray 69 (0,0))
 pl:∃off l' cuts,RP w K.r N.B off l' cuts∧Lk N.l off l' cuts
 up:upN N=true->RK w K.m K.gn K.gs K.r (dlN N) N.over N.B N.l∧RSt w K.t K.m K.gb (i:Int) N.R
 lrow:w.heap[K.ls]?=some (.cells #[dv K N 0,dv K N 1,dv K N 2,dv K N 3,dv K N 4,dv K N 5] 111 (0,0))
 drow:VR w K.dn (fun d=>aT (stN N d).ph)
 lds:∀d,d<6->∀x,N.ld d=some x->∃L:LSt,Rel n x.1 x.2 L∧RLd w (K.lb d) i n cap (d:Int) x.1 aw (stB L.stt) L.wait (K.vh d) L.hs L.ph L.seen
 cn:C K.nd=100*i+1
 cr:C K.r=100*i+7
 cl:C K.ls=100*i+8
 cd:C K.dn=100*i+9
 cu:upN N=true->C K.t=100*i+2∧C K.m=100*i+3∧C K.gn=100*i+4∧C K.gs=100*i+5∧C K.gb=100*i+6
 ce:∀d,d<6->∀x,N.ld d=some x->C (K.lb d)=100*i+10+d∧∀g,(K.vh d).ownBlock=some g->C g=100*i+20+d
section
variable {w w':World} {C C':Nat→Nat} {K:RB} {i n cap:Nat} {aw:Option Addr} {N:PN}
theorem RLd.kept{S:Nat->Prop}{lb id:Nat}{deal att:Int}{st:ByteArray}{wait:Int}{vh:Value}{a:List F9}{ph seen:Int}(h:RLd w lb id n cap deal att aw st wait vh a ph seen)(k:Kept S w w')(h1:¬S lb)(b:∀g,vh.ownBlock=some g->¬S g):RLd w' lb id n cap deal att aw st wait vh a ph seen:=
 ⟨k.row h.row h1,aV h.own k b⟩
theorem RN.kept{S:Nat->Prop}(h:RN w C K i n cap aw N)(k:Kept S w w')(a:∀x,C x / 100=i->¬S x):RN w' C K i n cap aw N:=by
 have z:=h.cn;have A:=h.cr;have B:=h.cl;have D:=h.cd;obtain⟨j,l,m,o,p⟩:=h.pl;refine⟨k.row h.row (a _ (by omega)),⟨j,l,m,o.kept k (a _ (by omega)),p⟩,fun b=>?_,k.row h.lrow (a _ (by omega)),k.row h.drow (a _ (by omega)),fun c d x e=>?_,h.cn,h.cr,h.cl,h.cd,h.cu,h.ce⟩
 ·obtain⟨q,f,E,F,G⟩:=h.cu b
  obtain⟨r,s⟩:=h.up b;exact⟨r.kept k (a _ (by omega)) (a _ (by omega)) (a _ (by omega)) (a _ (by omega)),s.kept k (a _ (by omega)) (a _ (by omega))⟩
 ·obtain⟨t,u,v⟩:=h.lds c d x e
  obtain⟨q,f⟩:=h.ce c d x e;exact⟨t,u,v.kept k (a _ (by omega)) (fun g y=>a g (by have:=f g y;omega))⟩
theorem RN.later(h:RN w C K i n cap aw N)(a:Below w.heap.size w w'):RN w' C K i n cap aw N:=
 h.kept (S:=fun _=>False) (Kept.of_below a) (fun _ _ b=>b)
theorem RN.col(h:RN w C K i n cap aw N)(a:∀x,x<w.heap.size->C' x=C x):RN w C' K i n cap aw N:=by
 obtain⟨p,q,r,d,s⟩:=h.pl;refine⟨h.row,⟨p,q,r,d,s⟩,h.up,h.lrow,h.drow,h.lds,(a _ (ah h.row)).trans h.cn,(a _ (ah d)).trans h.cr,(a _ (ah h.lrow)).trans h.cl,(a _ (ah h.drow)).trans h.cd,fun e=>?_,fun f g x j=>?_⟩
 ·obtain⟨b,c,t,u,v⟩:=h.cu e
  obtain⟨y,k⟩:=h.up e;obtain⟨z,A,B,-⟩:=y.lts;exact⟨(a _ (ah k.row)).trans b,(a _ z).trans c,(a _ A).trans t,(a _ B).trans u,(a _ (ah k.refs)).trans v⟩
 ·obtain⟨D,E,l⟩:=h.lds f g x j
  obtain⟨b,c⟩:=h.ce f g x j;exact⟨(a _ (ah l.row)).trans b,fun m o=>(a _ ((l.own.lt m o).2)).trans (c m o)⟩
end
def gM(x:Nat×Nat):List Value:=[.int .i64 (x.1:Int),.int .i64 (x.2:Int)]
def cA(L:List (Nat×Nat)):List Value:=L.flatMap gM
structure YB where
 xb:Nat
 nb:Nat
 nc:Nat
 bv:Value
 fv:Value
 ev:Value
 K:Nat->RB
def rwC(Y:YB)(aw:Option Addr)(n cap:Nat):List Value:=[.slice aw n cap,.slice (some ⟨Y.nb,0,none⟩) n Y.nc,Y.bv,Y.fv,Y.ev]
def vF(V:PX)(L:List (Nat×Nat)):Prop:=(∀a b,a<7->b<7->a≠b->(brX V a b=true ↔ (a,b)∈L∨(b,a)∈L))∧∀x,x∈L->x.1≠x.2
structure RW (w0 w:World) (C:Nat->Nat) (Y:YB) (aw:Option Addr) (cap:Nat) (zs:List Int) (V:PX) (m:Nat):Prop where
 bel:Below w0.heap.size w0 w
 row:w.heap[Y.xb]?=some (.cells (rwC Y aw zs.length cap).toArray 58 (0,0))
 ws:IsSl w0 (.slice aw zs.length cap) zs
 ns:∀i,i<zs.length->w.cell? ⟨Y.nb,i,none⟩=some (.pointer (some ⟨(Y.K i).nd,0,none⟩))
 nds:∀i,i<zs.length->RN w C (Y.K i) i zs.length cap aw (V.nd i)
 brk:∃L,w.ownsRow w0.heap.size 131 2 Y.bv L.length (cA L)∧vF V L∧L.length<=m
 fly:w.ownsRow w0.heap.size 125 9 Y.fv V.fly.length (am V.fly)
 evs:w.ownsRow w0.heap.size 77 3 Y.ev V.evs.length (bu V.evs)
 cx:C Y.xb=1001
 cn:C Y.nb=1003
 cb:∀g,Y.bv.ownBlock=some g->C g=1004
 cf:∀g,Y.fv.ownBlock=some g->C g=1005
 ce:∀g,Y.ev.ownBlock=some g->C g=1006
 lt:∀x,C x<2000->x<w.heap.size
 low:∀x,C x<2000->w0.heap.size<=x
 inv:XI zs V m
section
variable {w0 w w':World} {C C':Nat→Nat} {Y:YB} {aw:Option Addr} {cap m:Nat} {zs:List Int} {V V':PX}
theorem RW.n7(h:RW w0 w C Y aw cap zs V m):1<=zs.length∧zs.length<=7:=⟨(bp h.inv.he).1,(bp h.inv.he).2.1⟩
theorem RW.later(h:RW w0 w C Y aw cap zs V m)(c:Below w.heap.size w w'):RW w0 w' C Y aw cap zs V m:=by
 have b:Kept (fun _=>False) w w':=Kept.of_below c;obtain⟨f,g,i,j⟩:=h.brk;exact⟨h.bel.trans (c.mono h.bel.size),b.row h.row (fun a=>a),h.ws,fun d e=>aI (h.ns d e) b (fun a=>a),fun d e=>(h.nds d e).later c,⟨f,aV g b (fun _ _ a=>a),i,j⟩,aV h.fly b (fun _ _ a=>a),aV h.evs b (fun _ _ a=>a),h.cx,h.cn,h.cb,h.cf,h.ce,fun a k=>bm (h.lt a k) c.size,h.low,h.inv⟩
theorem RW.drew(h:RW w0 w C Y aw cap zs V m):RW w0 w.drew C Y aw cap zs V m:=h.later aF.drew
theorem RW.cell(h:RW w0 w C Y aw cap zs V m)(j:Nat):w.cell? ⟨Y.xb,j,none⟩=(rwC Y aw zs.length cap)[j]?:=by
 rw[aG w Y.xb j _ _ _ h.row,List.getElem?_toArray]
theorem RW.cells(h:RW w0 w C Y aw cap zs V m):w.cell? ⟨Y.xb,0,none⟩=some (.slice aw zs.length cap)∧w.cell? ⟨Y.xb,1,none⟩=some (.slice (some ⟨Y.nb,0,none⟩) zs.length Y.nc)∧w.cell? ⟨Y.xb,2,none⟩=some Y.bv∧w.cell? ⟨Y.xb,3,none⟩=some Y.fv∧w.cell? ⟨Y.xb,4,none⟩=some Y.ev:=
 ⟨h.cell 0,h.cell 1,h.cell 2,h.cell 3,h.cell 4⟩
theorem RW.fz(h:RW w0 w C Y aw cap zs V m)(j:Nat):w.frozen? ⟨Y.xb,j,none⟩=false:=aK w Y.xb j _ _ h.row
theorem RW.far{S:Nat->Prop}(h:RW w0 w C Y aw cap zs V m)(k:Kept S w w')(g:∀x,S x->2000<=C x)(i:∀x,S x->w0.heap.size<=x):RW w0 w' C Y aw cap zs V m:=by
 obtain⟨j,l,n,o⟩:=h.brk;have q:=h.n7;have r:=h.cx;have s:=h.cn;have b:∀x,C x<2000->¬S x:=fun x d p=>by have:=g x p;omega
 exact⟨k.below h.bel.size i h.bel,k.row h.row (b _ (by omega)),h.ws,fun e f=>aI (h.ns e f) k (b _ (by show C Y.nb<2000;omega)),fun e f=>(h.nds e f).kept k (fun x d=>b x (by omega)),⟨j,aV l k (fun a c=>b a (by have:=h.cb a c;omega)),n,o⟩,aV h.fly k (fun a c=>b a (by have:=h.cf a c;omega)),aV h.evs k (fun a c=>b a (by have:=h.ce a c;omega)),h.cx,h.cn,h.cb,h.cf,h.ce,fun x d=>bm (h.lt x d) k.size,h.low,h.inv⟩
theorem RW.node{S:Nat->Prop}{i m':Nat}{N:PN}{K:RB}(h:RW w0 w C Y aw cap zs V m)(k:Kept S w w')(F:i<zs.length)(p:∀x,S x->C x / 100=i)(l:∀x,x<w.heap.size->C' x=C x)(r:∀x,w.heap.size<=x->C' x<2000->x<w'.heap.size)(s:RN w' C' K i zs.length cap aw N)(t:K.nd=(Y.K i).nd)(G:m<=m')(u:XI zs (aA V i N) m'):RW w0 w' C' { Y with K:=fun e=>if e=i then K else Y.K e } aw cap zs (aA V i N) m':=by
 have H:=h.n7.2;have I:=h.bel.size;have v:∀x,S x->w0.heap.size<=x:=fun x c=>h.low x (by have:=p x c;omega)
 have d:∀x,C x / 100≠i->¬S x:=fun x c f=>c (p x f)
 obtain⟨y,z,A,J⟩:=h.brk;have L:=h.cx;have M:=h.cn;have j:∀{x n:Nat},C x=n->n<2000->C' x=n:=fun {x n} e O=>(l x (h.lt x (by omega))).trans e
 refine⟨k.below h.bel.size v h.bel,k.row h.row (d Y.xb (by omega)),h.ws,fun e o=>?_,fun e o=>?_,⟨y,aV z k (fun a b=>d a (by have:=h.cb a b;omega)),A,by omega⟩,aV h.fly k (fun a b=>d a (by have:=h.cf a b;omega)),aV h.evs k (fun a b=>d a (by have:=h.ce a b;omega)),j h.cx (by omega),j h.cn (by omega),fun a b=>j (h.cb a b) (by omega),fun a b=>j (h.cf a b) (by omega),fun a b=>j (h.ce a b) (by omega),fun x c=>?_,fun x c=>?_,u⟩
 ·have:=aI (h.ns e o) k (d _ (by show C Y.nb / 100≠i;omega))
  rw[this]
  by_cases a:e=i
  ·subst a;simp[t]
  ·simp[a]
 ·by_cases a:e=i
  ·subst a
   simpa [aA]using s
  ·have B:=(h.nds e o).col (C':=C') l
   have:=B.kept (S:=fun x=>S x∧x<w.heap.size) (w':=w') ⟨k.os,k.tape,k.output,k.size,fun D q E=>k.block D q (fun f=>E ⟨f,q⟩)⟩ (fun x c f=>d x (by rw[<-l x f.2];omega) f.1)
   simpa [aA,a]using this
 ·rcases bU x w.heap.size with g|g
  ·exact bm g k.size
  ·exact r x g c
 ·rcases bU x w.heap.size with g|g
  ·exact h.low x (by rw[<-l x g];exact c)
  ·omega
theorem RW.own{i fv ev:Value}{Bk:List (Nat×Nat)}{F:List F9}{E:List E3}{m':Nat}{br:Nat->Nat->Bool}{S:Nat->Prop}(h:RW w0 w C Y aw cap zs V m)(k:Kept S w w')(l:∀x,S x->C x=1001∨C x=1004∨C x=1005∨C x=1006)(b:∀x,x<w.heap.size->C' x=C x)(q:∀x,w.heap.size<=x->C' x<2000->x<w'.heap.size)(r:w'.heap[Y.xb]?=some (.cells (rwC { Y with bv:=i,fv:=fv,ev:=ev } aw zs.length cap).toArray 58 (0,0)))(s:w'.ownsRow w0.heap.size 131 2 i Bk.length (cA Bk))(t:vF { V with br:=br } Bk)(u:Bk.length<=m')(v:w'.ownsRow w0.heap.size 125 9 fv F.length (am F))(e:w'.ownsRow w0.heap.size 77 3 ev E.length (bu E))(y:∀g,i.ownBlock=some g->C' g=1004)(z:∀g,fv.ownBlock=some g->C' g=1005)(A:∀g,ev.ownBlock=some g->C' g=1006)(B:XI zs { V with br:=br,fly:=F,evs:=E } m'):RW w0 w' C' { Y with bv:=i,fv:=fv,ev:=ev } aw cap zs { V with br:=br,fly:=F,evs:=E } m':=by
 have K:=h.n7.2;have L:=h.bel.size;have D:∀x,S x->w0.heap.size<=x:=fun x c=>h.low x (by rcases l x c with g|g|g|g<;>omega)
 have n:∀x,C x≠1001->C x≠1004->C x≠1005->C x≠1006->¬S x:=fun x M N O P a=>by rcases l x a with g|g|g|g<;>omega
 have Q:=h.cx;have G:=h.cn;have o:∀{x j:Nat},C x=j->j<2000->C' x=j:=fun {x j} f R=>(b x (h.lt x (by omega))).trans f
 have T:C (⟨Y.nb,0,none⟩:Addr).block=1003:=G;refine⟨k.below h.bel.size D h.bel,r,h.ws,fun f e=>aI (h.ns f e) k (n _ (by show C Y.nb≠_;omega) (by show C Y.nb≠_;omega) (by show C Y.nb≠_;omega) (by show C Y.nb≠_;omega)),fun f e=>?_,⟨Bk,s,t,u⟩,v,e,o h.cx (by omega),o h.cn (by omega),y,z,A,fun x c=>?_,fun x c=>?_,B⟩
 ·have H:=(h.nds f e).col (C':=C') b
  exact H.kept (S:=fun x=>S x∧x<w.heap.size) (w':=w') ⟨k.os,k.tape,k.output,k.size,fun I p J=>k.block I p (fun a=>J ⟨a,p⟩)⟩ (fun x c a=>n x (by rw[<-b x a.2];omega) (by rw[<-b x a.2];omega) (by rw[<-b x a.2];omega) (by rw[<-b x a.2];omega) a.1)
 ·rcases bU x w.heap.size with d|d
  ·exact bm d k.size
  ·exact q x d c
 ·rcases bU x w.heap.size with d|d
  ·exact h.low x (by rw[<-b x d];exact c)
  ·omega
end
section
variable {w0 w w':World} {C C':Nat→Nat} {K:RB} {Y:YB} {aw:Option Addr} {i n cap m:Nat} {zs:List Int} {N:PN} {V V':PX}
theorem RN.cell(h:RN w C K i n cap aw N)(j:Nat):w.cell? ⟨K.nd,j,none⟩=(kB K N)[j]?:=by
 rw[aG w K.nd j _ _ _ h.row,List.getElem?_toArray]
theorem RN.cells(h:RN w C K i n cap aw N):w.cell? ⟨K.nd,0,none⟩=some (rsV K N)∧w.cell? ⟨K.nd,1,none⟩=some (.pointer (some ⟨K.r,0,none⟩))∧w.cell? ⟨K.nd,2,none⟩=some (.slice (some ⟨K.ls,0,none⟩) 6 6)∧w.cell? ⟨K.nd,3,none⟩=some (.slice (some ⟨K.dn,0,none⟩) 6 6):=
 ⟨h.cell 0,h.cell 1,h.cell 2,h.cell 3⟩
theorem RN.lead(h:RN w C K i n cap aw N){d:Nat}(a:d<6):w.cell? ⟨K.ls,d,none⟩=some (dv K N d):=by
 rw[ai h.lrow];rcases six a with rfl|rfl|rfl|rfl|rfl|rfl<;>rfl
theorem RN.bytes(h:RN w C K i n cap aw N):w.cell? ⟨K.r,0,none⟩=some (.string N.B):=by
 obtain⟨b,c,d,a,-⟩:=h.pl;exact a.c0
theorem kw(s:Int)(c:Nat)(h:RW w0 w C Y aw cap zs V m)(a:cUp zs.length V s=c):Calls prog 81 #[.pointer (some ⟨Y.xb,0,none⟩),.int .i64 s] w fun e w'=>e=.returned (.int .i64 (c:Int))∧w'=w:=by
 obtain⟨-,o,-,-,-⟩:=h.cells;have p:=h.n7.2
 by_cases g:0<=s∧s<zs.length
 ·obtain⟨b,rfl⟩:=bD g.1
  have k:b<zs.length:=by omega
  have q:=h.ns b k;obtain⟨l,-,-,-⟩:=(h.nds b k).cells;have d:cUp zs.length V b=if upN (V.nd b)=true then 0 else 6:=by unfold cUp;rw[af g,aU]
  rw[d]at a;unfold rsV at l;obtain⟨n,f⟩:∃n,zs.length=n:=⟨_,rfl⟩;rw[f]at o k p;have r:¬(n:Int)<=(b:Int):=by omega
  cases j:upN (V.nd b)with
  | true =>
   rw[j,af rfl]at a l;subst a;clear h g d j f
   go_enter func81,ntmps81
   go_wp2_with fail
   go_ret
   exact⟨rfl,rfl⟩
  | false =>
   rw[j,aa (by decide)]at a l;subst a;clear h g d j f
   go_enter func81,ntmps81
   go_wp2_with fail
   go_ret
   exact⟨rfl,rfl⟩
 ·have d:cUp zs.length V s=2:=by unfold cUp;rw[aa g]
  rw[d]at a;subst a;obtain⟨n,f⟩:∃n,zs.length=n:=⟨_,rfl⟩;rw[f]at o g
  by_cases t:s<0
  ·clear h d f
   go_enter func81,ntmps81
   go_wp2_with fail
   go_ret
   exact⟨rfl,rfl⟩
  ·have u:(n:Int)<=s:=by omega
   clear h d f
   go_enter func81,ntmps81
   go_wp2_with fail
   go_ret
   exact⟨rfl,rfl⟩
theorem aap(s d:Nat)(h:RW w0 w C Y aw cap zs V m)(a:s<zs.length)(j:d<6):Calls prog 34 #[.pointer (some ⟨Y.xb,0,none⟩),.int .i64 (s:Int),.int .i64 (d:Int)] w fun e w'=>(∃b,e=.returned (.string b)∧b=(match (V.nd s).ld d with|none=>⟨#[110,111,110,101]⟩|some f=>stB f.2.stt))∧w'=w:=by
 obtain⟨-,p,-,-,-⟩:=h.cells;have r:=h.ns s a;obtain⟨-,-,t,-⟩:=(h.nds s a).cells;have k:=(h.nds s a).lead j;obtain⟨n,g⟩:∃n,zs.length=n:=⟨_,rfl⟩;rw[g]at p;have u:s<n:=by omega
 cases c:(V.nd s).ld d with
 | none =>
  rw[iu c]at k;clear h c g a
  go_enter func34,ntmps34
  go_wp2_with fail
  go_ret
  exact⟨⟨_,rfl,rfl⟩,rfl⟩
 | some f =>
  rw[gz c]at k;obtain⟨v,l,o⟩:=(h.nds s a).lds d j f c;obtain⟨-,-,-,-,q,-,-,-,-⟩:=o.cells;rw[<-l.stt]at q;clear h c g a l o
  go_enter func34,ntmps34
  go_wp2_with fail
  go_ret
  exact⟨⟨_,rfl,rfl⟩,rfl⟩
end
def eY(Y:YB):Nat×(Nat->Nat):=(Y.xb,fun e=>(Y.K e).nd)
def ROut(w0 w w':World)(C:Nat->Nat)(Y:YB)(aw:Option Addr)(cap:Nat)(zs:List Int)(V':PX)(m':Nat):Prop:=
 ∃C' Y',RW w0 w' C' Y' aw cap zs V' m'∧eY Y'=eY Y∧Kept (di C) w w'∧∀x,x<w.heap.size->C' x=C x
section
variable {w0 w w':World} {C C':Nat→Nat} {Y:YB} {aw:Option Addr} {cap m m':Nat} {zs:List Int} {V V':PX}
theorem fH{Y a:YB}(h:eY a=eY Y):a.xb=Y.xb:=congrArg Prod.fst h
theorem RW.mono(h:RW w0 w C Y aw cap zs V m)(a:m<=m'):RW w0 w C Y aw cap zs V m':=by
 obtain⟨b,c,d,e⟩:=h.brk;exact⟨h.bel,h.row,h.ws,h.ns,h.nds,⟨b,c,d,by omega⟩,h.fly,h.evs,h.cx,h.cn,h.cb,h.cf,h.ce,h.lt,h.low,h.inv.mono a⟩
theorem RW.out(h:RW w0 w C Y aw cap zs V m)(a:Below w.heap.size w w')(b:m<=m'):ROut w0 w w' C Y aw cap zs V m':=
 ⟨C,Y,(h.later a).mono b,rfl,Kept.of_below a,fun _ _=>rfl⟩
theorem ROut.step{w1 f:World}{C1:Nat->Nat}{Y1:YB}(c:eY Y1=eY Y)(a:Kept (di C) w w1)(g:∀x,x<w.heap.size->C1 x=C x)(i:ROut w0 w1 f C1 Y1 aw cap zs V' m'):ROut w0 w f C Y aw cap zs V' m':=by
 obtain⟨C',j,k,l,b,n⟩:=i;refine⟨C',j,k,l.trans c,?_,fun x c=>(n x (bm c a.size)).trans (g x c)⟩;refine⟨b.os.trans a.os,b.tape.trans a.tape,b.output.trans a.output,bc a.size b.size,fun d e h=>?_⟩;refine(b.block d (bm e a.size) (fun o=>h ?_)).trans (a.block d e h);show C d<2000;rw[<-g d e];exact o
theorem RW.framed{F:List F9}{v':Value}{S:Nat->Prop}(h:RW w0 w C Y aw cap zs V m)(o:Kept S w w')(t:∀x,S x->Y.fv.ownBlock=some x)(p:w'.ownsRow w0.heap.size 125 9 v' F.length (am F))(q:v'.ownBlock=none∨v'.ownBlock=Y.fv.ownBlock∨∃g,v'.ownBlock=some g∧w.heap.size<=g)(L:m<=m')(u:XI zs { V with fly:=F } m'):ROut w0 w (w'.setCell ⟨Y.xb,3,none⟩ v') C Y aw cap zs { V with fly:=F } m':=by
 have c:=ah h.row;have M:=h.cx;have i:∀x,S x->C x=1005:=fun x c=>h.cf x (t x c)
 have v:w'.heap[Y.xb]?=some (.cells (rwC Y aw zs.length cap).toArray 58 (0,0)):=o.row h.row (fun b=>by have:=i _ b;omega);have j:Kept (fun x=>x=Y.xb∨S x) w (w'.setCell ⟨Y.xb,3,none⟩ v'):=(o.mono (fun x c=>.inr c)).setCell (.inl rfl) v';have r:∀x,(x=Y.xb∨S x)->C x=1001∨C x=1004∨C x=1005∨C x=1006:=fun x c=>by
  rcases c with rfl|c
  ·exact .inl h.cx
  ·exact .inr (.inr (.inl (i x c)))
 have y:Kept (di C) w (w'.setCell ⟨Y.xb,3,none⟩ v'):=j.mono (fun x c=>by show C x<2000;rcases r x c with g|g|g|g<;>omega)
 have z:(w'.setCell ⟨Y.xb,3,none⟩ v').heap[Y.xb]?=some (.cells (rwC { Y with bv:=Y.bv,fv:=v',ev:=Y.ev } aw zs.length cap).toArray 58 (0,0)):=by
  rw[aE w' Y.xb 3 _ _ _ v];rfl
 have A:∀g,v'.ownBlock=some g->g≠Y.xb:=fun g a b=>by
  rcases q with d|d|⟨k,d,B⟩
  ·rw[d]at a;cases a
  ·rw[d]at a;have:=h.cf g a;rw[b]at this;omega
  ·rw[d]at a;have:=bF a;omega
 have D:(w'.setCell ⟨Y.xb,3,none⟩ v').ownsRow w0.heap.size 125 9 v' F.length (am F):=aV p ((Kept.refl (In1 Y.xb) w').set1 3 v') (fun g a b=>A g a b);obtain⟨n,s,E,N⟩:=h.brk;have G:(w'.setCell ⟨Y.xb,3,none⟩ v').ownsRow w0.heap.size 131 2 Y.bv n.length (cA n):=aV s j (fun g a b=>by
  have H:=h.cb g a;rcases b with rfl|b
  ·omega
  ·have:=i g b;omega)
 have I:(w'.setCell ⟨Y.xb,3,none⟩ v').ownsRow w0.heap.size 77 3 Y.ev V.evs.length (bu V.evs):=aV h.evs j (fun g a b=>by
  have H:=h.ce g a;rcases b with rfl|b
  ·omega
  ·have:=i g b;omega)
 obtain⟨f,l,J,K⟩:∃f:Nat->Nat,(∀x,x<w.heap.size->f x=C x)∧(∀x,w.heap.size<=x->f x<2000->x<(w'.setCell ⟨Y.xb,3,none⟩ v').heap.size)∧∀g,v'.ownBlock=some g->f g=1005:=by
  rcases q with d|d|⟨k,d,B⟩
  ·exact⟨C,fun _ _=>rfl,fun x c e=>by have:=h.lt x e;omega,fun g a=>by rw[d]at a;cases a⟩
  ·exact⟨C,fun _ _=>rfl,fun x c e=>by have:=h.lt x e;omega,fun g a=>h.cf g (by rw[<-d];exact a)⟩
  ·refine⟨bV C k 1005,fun x c=>aq (by omega),fun x c e=>?_,fun g a=>?_⟩
   ·by_cases b:x=k
    ·rw[b];have:=(p.lt k d).2;simpa using this
    ·rw[aq b]at e
     have:=h.lt x e;omega
   ·rw[d]at a
    obtain rfl:=bF a;exact bw _ _ _
 refine⟨f,{ Y with bv:=Y.bv,fv:=v',ev:=Y.ev },?_,rfl,y,l⟩;exact h.own (br:=V.br) (F:=F) (E:=V.evs) (Bk:=n) j r l J z G E (by omega) D I (fun g a=>by rw[l g (s.lt g a).2];exact h.cb g a) K (fun g a=>by rw[l g (h.evs.lt g a).2];exact h.ce g a) u
theorem la(v:Value)(L:List F9)(h:RW w0 w C Y aw cap zs V m)(d:IsFr w v L)(g:∀f,f∈L->FI zs.length f)(q:L.length<=1000)(A:m<=100000000):Calls prog 83 #[.pointer (some ⟨Y.xb,0,none⟩),v] w fun e w'=>e=.returned (.tuple #[])∧ROut w0 w w' C Y aw cap zs (aW V L) (m+1):=by
 obtain⟨-,-,-,r,-⟩:=h.cells;have B:=h.fz 3;have i:=hid h;have s:=hid d;have t:=hid g;have u:V.fly.length+L.length<=1000000000000:=by have:=h.inv.fl;omega
 have j:=hid h.fly;have x:=h.bel.size;have y:Hid (∀w',w.grownBy w' Y.fv.ownBlock->w'.cell? ⟨Y.xb,3,none⟩=some Y.fv∧w'.frozen? ⟨Y.xb,3,none⟩=false):=by
  intro w' a;have k:=(bZ a).row h.row (fun e=>by have D:=h.cf _ e;have E:=h.cx;omega);exact⟨by rw[ai k];rfl,dN k⟩
 generalize l:Y.fv=F at r j;have n:=hid l;clear h d g l
 go_enter func83,ntmps83
 go_wp2_with (at_builtin;refine dQ rfl _ _ rfl w0.heap.size V.fly.length _ v (am V.fly) L rfl rfl j s u x ?_;intro G H w' o a p;obtain⟨I,J⟩:=y.out w' (by rw[n.out];exact a);have b:=hid (And.intro o (And.intro a p));clear o a p)
 go_end0
 rw[<-n.out]at b;refine⟨rfl,?_⟩;refine i.framed (F:=V.fly++L) (bZ b.2.1) (fun K z=>z) (by rw[aR,cE];exact b.1) ?_ (aP _) (i.inv.send t q);rcases b.2.2 with c|c
 ·exact .inr (.inl c)
 ·exact .inr (.inr ⟨_,c,aj⟩)
end
end Go.Proofs.YtaehdgemkafinaaGreatDoor
