/-
  On the way to SPlaysProof: XU XV XW.
-/
import Derived.Test.YtaehdgemkafinaaGreatDoorBx33
import Derived.Test.YtaehdgemkafinaaGreatDoorBx35
import Derived.Test.YtaehdgemkafinaaGreatDoorBx34
set_option maxHeartbeats 8000000
set_option maxRecDepth 100000
namespace Go.Proofs.YtaehdgemkafinaaGreatDoor
open Go.RowKit
open Go.Proofs.Tryz
section
variable {zs:List Int} {id:Nat} {deal att:Int} {L:LSt} {f:F9}
theorem acP(h:gO zs.length id deal att L f∧(bi L.hs f.f).isSome=false)(j:f.y=true):pR zs id deal att (stB L.stt) f.k (L.hs++[f]) L.ph=(dm id deal att zs.length (dR zs id deal att L f).2,stB (dR zs id deal att L f).1.stt,(dR zs id deal att L f).1.wait,(dR zs id deal att L f).1.hs,(dR zs id deal att L f).1.ph)∧(dR zs id deal att L f).1.seen=dO L f:=by
 have c:¬f.y=false:=by rw[j];decide
 have g:L.wait=f.k:=h.1.2.1.symm;unfold pR
 by_cases a:f.k=2
 ·by_cases e:(L.hs++[f]).length=zs.length
  ·rw[su h c a e,af a,af e]
   exact⟨by simp only[dm,iy],rfl⟩
  ·rw[qr h c a e,af a,aa e]
   exact⟨by simp only[dm,g],rfl⟩
 ·by_cases b:bn zs (ck (L.hs++[f]) zs.length)=false
  ·rw[nl h c a b,aa a,af b]
   exact⟨by simp only[dm,g],rfl⟩
  ·by_cases d:f.k=6
   ·rw[sk h c a b d,aa a,aa b,af d]
    exact⟨by simp only[dm,iy],rfl⟩
   ·cases i:gc (bS (L.hs++[f]) zs.length)with
    | mk l k =>
     cases k with
     | true =>
      rw[ss h c a b d i,aa a,aa b,aa d];exact⟨by simp[dm,iy],rfl⟩
     | false =>
      rw[tm h c a b d i,aa a,aa b,aa d];exact⟨by simp[dm,iy],rfl⟩
end
section
variable {w:World} {zs:List Int} {lb id cap vb vo:Nat} {deal att:Int} {vh:Value} {P:PL} {L:LSt} {f:F9}
def f9V(f:F9):Value:=frV f.f f.t f.d f.k f.a f.y f.ph f.pr f.pa
theorem rk(f:F9)(h:RLd w lb id zs.length cap deal att (some ⟨vb,vo,none⟩) (stB L.stt) L.wait vh L.hs L.ph L.seen)(t:Rel zs.length att P L)(h0:0<=att)(G:f.k≠2->0<=f.pr)(C:bT zs=0)(H:∀i,i<zs.length->w.cell? ⟨vb,vo+i,none⟩=some (.int .i64 (zs.getD i 0)))(I:vb≠lb)(J:vh.ownBlock≠some vb):Calls prog 88 #[.pointer (some ⟨lb,0,none⟩),f9V f] w fun e w'=>∃v u L',e=.returned v∧IsFr w' v (dm id deal att zs.length (aL zs id deal att P f).2)∧Rel zs.length att (aL zs id deal att P f).1 L'∧RLd w' lb id zs.length cap deal att (some ⟨vb,vo,none⟩) (stB L'.stt) L'.wait u L'.hs L'.ph L'.seen∧Kept (InH lb vh) w w'∧∀g,u.ownBlock=some g->vh.ownBlock=some g∨w.heap.size<=g:=by
 have D:zs.length<=7:=(bp C).2.1;obtain⟨K,a⟩:=t.step (id:=id) (deal:=deal) (f:=f) h0 D G;rw[K];have M:∀(_:L.wait≠0),L.hs.length<=60:=fun N=>by
  have:P.stt<=1:=by
   have:=t.wait;rcases bU 1 P.stt with g|g
   ·rw[aa (by omega),aa (by omega)]at this;exact absurd this N
   ·exact g
  rw[t.cnt this];have:=pB L.hs zs.length;omega
 by_cases n:gO zs.length id deal att L f
 ·obtain⟨j,o,x,y,z,E,O⟩:=n
  have n:gO zs.length id deal att L f:=⟨j,o,x,y,z,E,O⟩;have Q:=M j;obtain⟨k,p⟩:=bD E;have F:f.k=2∨f.k=4∨f.k=6:=by
   have:=t.wait;rw[o];rw[this]at j ⊢
   split
   ·split
    ·exact .inl rfl
    ·exact .inr (.inl rfl)
   ·split
    ·exact .inr (.inr rfl)
    ·rename_i R S
     rw[aa R,aa S]at j;exact absurd rfl j
  have T:f9V f=frV (k:Int) (id:Int) deal f.k att f.y f.ph f.pr f.pa:=by unfold f9V;rw[p,z,x,y]
  rw[<-o]at h;rw[T]
  cases b:bi L.hs (k:Int)with
  | some B =>
   have c:¬(gO zs.length id deal att L f∧(bi L.hs f.f).isSome=false):=fun g=>by
    have:=g.2;rw[p,b]at this
    cases this
   rw[mr c]at a ⊢;refine(uv k f.k f.y f.ph f.pr f.pa B h (by omega) (by rw[o];exact j) (by omega) b).mono ?_;rintro e w' ⟨rfl,q⟩;rw[o]at h;exact⟨_,vh,L,rfl,IsFr.zero _,a,h.later q,Kept.of_below q,fun g d=>.inl d⟩
  | none =>
   have c:gO zs.length id deal att L f∧(bi L.hs f.f).isSome=false:=⟨n,by rw[p,b];rfl⟩
   cases r:f.y with
   | false =>
    refine(aca k f.k f.ph f.pr f.pa (dO L f) h (by omega) F (by omega) b D rfl).mono ?_;rintro e w' ⟨v,rfl,l,m,A⟩
    by_cases s:f.k=2
    ·rw[sY c r s]at a ⊢
     rw[af s,iy]at l;rw[af s]at m;exact⟨v,vh,_,rfl,l,a,m,A.mono (fun B b=>.inl b),fun g d=>.inl d⟩
    ·rw[qe c r s]at a ⊢
     rw[aa s]at l m;exact⟨v,vh,_,rfl,l,a,m,A.mono (fun B b=>.inl b),fun g d=>.inl d⟩
   | true =>
    obtain⟨U,V⟩:=acP c r;have W:f=⟨k,id,deal,f.k,att,true,f.ph,f.pr,f.pa⟩:=by
     cases f
     simp only at p z x y r;simp only[p,z,x,y,r]
    refine(yI vb vo zs k f.k f.ph f.pr f.pa (dO L f) _ (L.hs++[f]) (by rw[<-W]) h Q F (by omega) b rfl C H I J rfl U).mono ?_;rintro e w' ⟨v,u,rfl,l,m,A,X⟩;refine⟨v,u,_,rfl,l,a,?_,A,X⟩;rw[V];exact m
 ·have c:¬(gO zs.length id deal att L f∧(bi L.hs f.f).isSome=false):=fun g=>n g.1
  rw[mr c]at a ⊢;refine(zw f.f f.t f.d f.k f.a f.y f.ph f.pr f.pa h n).mono ?_;rintro e w' ⟨rfl,q⟩;exact⟨_,vh,L,rfl,IsFr.zero _,a,h.later q,Kept.of_below q,fun g d=>.inl d⟩
end
theorem tO(id:Nat)(deal kind att ph:Int):∀k,dz id deal kind att ph false k=if id<k then(toL id deal kind att ph k).eraseIdx id else toL id deal kind att ph k
 | 0=>by rw[aa (by omega)];rfl
 | k+1=>by
  have b:=tO id deal kind att ph k;unfold dz
  by_cases c:k=id
  ·subst c
   rw[af ⟨rfl,rfl⟩,b,aa (by omega),af (by omega)];have d:=eJ k deal kind att ph k;rw[toL,List.eraseIdx_append_of_length_le (by omega),d,Nat.sub_self];simp
  ·rw[aa (fun a=>c a.1),b]
   by_cases a:id<k
   ·rw[af a,af (by omega),toL,List.eraseIdx_append_of_lt_length (by rw[eJ];exact a)]
   ·rw[aa a,aa (by omega)];rfl
theorem uY{id n:Nat}{deal att:Int}(a:id<n)(b:att≠0):lN id deal att n=dw id deal att n:=by
 unfold lN dw;rw[aa b,tO,af a]
theorem aae{id n:Nat}{deal:Int}:lN id deal 0 n=toL id deal 1 0 0 n:=by
 unfold lN;rw[af rfl,iy]
theorem Rel.new(n:Nat)(att:Int):Rel n att P0 ⟨if att=0 then 2 else 4,0,[],0,0⟩:=by
 refine⟨rX n,rfl,by decide,?_,fun c a=>(by cases a),fun _=>?_,fun _=>?_,fun _=>?_,fun b=>(by cases b),rfl,fun _=>rfl,Int.le_refl _⟩
 ·show(if att=0 then(2:Int)else 4)=if(0:Nat)=0 then(if att=0 then 2 else 4)else _
  rw[af rfl]
 ·exact(kX n).symm
 ·exact(lj n).symm
 ·have:(if att=0 then([]:List F9)else[])=[]:=by split<;>rfl
  show P0.told=(List.range 7).map (tl (if att=0 then[]else[]));rw[this];rfl
section
variable {w0 w w1 w':World} {C C':Nat→Nat} {K:RB} {Y:YB} {aw:Option Addr} {i n cap m m' d:Nat} {zs:List Int} {N:PN} {V V':PX}
def dY(K:RB)(d lb:Nat)(vh:Value):RB:={ K with lb:=fun e=>if e=d then lb else K.lb e,vh:=fun e=>if e=d then vh else K.vh e }
theorem vg{lb:Nat}{vh:Value}{x:Int×PL}(e:Nat):dv (dY K d lb vh) (aC N d x) e=if e=d then .pointer (some ⟨lb,0,none⟩)else dv K N e:=by
 unfold dv aC dY;simp only
 by_cases a:e=d
 ·simp[a]
 ·simp[a]
theorem RN.lead'{S:Nat->Prop}{lb:Nat}{vh:Value}{a:Int}{P:PL}{L:LSt}(h:RN w C K i n cap aw N)(t:upN N=true)(hd:d<6)(k:Kept S w w')(B:∀x,S x->C x=100*i+8∨C x=100*i+10+d∨C x=100*i+20+d)(b:∀x,x<w.heap.size->C' x=C x)(D:w'.heap[K.ls]?=some (.cells #[dv (dY K d lb vh) (aC N d (a,P)) 0,dv (dY K d lb vh) (aC N d (a,P)) 1,dv (dY K d lb vh) (aC N d (a,P)) 2,dv (dY K d lb vh) (aC N d (a,P)) 3,dv (dY K d lb vh) (aC N d (a,P)) 4,dv (dY K d lb vh) (aC N d (a,P)) 5] 111 (0,0)))(E:Rel n a P L)(F:RLd w' lb i n cap (d:Int) a aw (stB L.stt) L.wait vh L.hs L.ph L.seen)(G:C' lb=100*i+10+d)(H:∀g,vh.ownBlock=some g->C' g=100*i+20+d):RN w' C' (dY K d lb vh) i n cap aw (aC N d (a,P)):=by
 have I:=h.cn;have J:=h.cr;have M:=h.cl;have O:=h.cd;obtain⟨Q,R,T,U,W⟩:=h.cu t;obtain⟨u,r⟩:=h.up t;obtain⟨X,Z,t3,t4⟩:=u.lts;have c:∀x,(C x≠100*i+8∧C x≠100*i+10+d∧C x≠100*i+20+d)->¬S x:=fun x a2 hs=>by have:=B x hs;omega
 obtain⟨a0,l',a1,v,p2⟩:=h.pl;refine⟨k.row h.row (c K.nd (by omega)),⟨a0,l',a1,v.kept k (c K.r (by omega)),p2⟩,fun _=>⟨u.kept k (c K.m (by omega)) (c K.gn (by omega)) (c K.gs (by omega)) (c K.r (by omega)),r.kept k (c K.t (by omega)) (c K.gb (by omega))⟩,D,k.row h.drow (c K.dn (by omega)),fun e l x o=>?_,(b _ (ah h.row)).trans I,(b _ (ah v)).trans J,(b _ (ah h.lrow)).trans M,(b _ (ah h.drow)).trans O,fun _=>⟨(b _ (ah r.row)).trans Q,(b _ X).trans R,(b _ Z).trans T,(b _ t3).trans U,(b _ (ah r.refs)).trans W⟩,fun e l x o=>?_⟩
 ·by_cases g:e=d
  ·subst g
   have f:(a,P)=x:=by simpa [aC]using o
   subst f;refine⟨L,E,?_⟩
   simpa [dY]using F
  ·have f:N.ld e=some x:=by simpa [aC,g]using o
   obtain⟨y,z,p⟩:=h.lds e l x f;obtain⟨A,s⟩:=h.ce e l x f;refine⟨y,z,?_⟩;have:=p.kept k (c _ (by omega)) (fun j q=>c j (by have:=s j q;omega))
   simpa [dY,g]using this
 ·by_cases g:e=d
  ·subst g
   simpa [dY]using And.intro G H
  ·have f:N.ld e=some x:=by simpa [aC,g]using o
   obtain⟨y,z,p⟩:=h.lds e l x f;obtain⟨A,s⟩:=h.ce e l x f;have:=And.intro ((b _ (ah p.row)).trans A) (fun j (q:(K.vh e).ownBlock=some j)=>(b _ ((p.own.lt j q).2)).trans (s j q))
   simpa [dY,g]using this
theorem RW.leadOut{x:Int×PL}{P:PL}{L:LSt}{vh:Value}(h:RW w0 w C Y aw cap zs V m)(r:i<zs.length)(v:d<6)(s:(V.nd i).ld d=some x)(k:Kept (InH ((Y.K i).lb d) ((Y.K i).vh d)) w w')(D:Rel zs.length x.1 P L)(y:RLd w' ((Y.K i).lb d) i zs.length cap (d:Int) x.1 aw (stB L.stt) L.wait vh L.hs L.ph L.seen)(E:∀g,vh.ownBlock=some g->((Y.K i).vh d).ownBlock=some g∨w.heap.size<=g)(z:m<=m')(F:NI zs.length (aC (V.nd i) d (x.1,P)) m'):ROut w0 w w' C Y aw cap zs (aA V i (aC (V.nd i) d (x.1,P))) m':=by
 have R:=h.n7.2;have l:=h.nds i r;have G:upN (V.nd i)=true:=by have:=((h.inv.nd i r).ld d x s).1;unfold upN;simpa using this
 have S:=l.cn;have H:=l.cl;obtain⟨A,t⟩:=l.ce d v x s;have u:∀a,InH ((Y.K i).lb d) ((Y.K i).vh d) a->C a=100*i+8∨C a=100*i+10+d∨C a=100*i+20+d:=fun a b=>by
  rcases b with rfl|b
  ·exact .inr (.inl A)
  ·exact .inr (.inr (t a b))
 have I:=k.row l.lrow (fun c=>by
  rcases c with c|c
  ·rw[c]at H;omega
  ·have:=t _ c;omega)
 obtain⟨f,p,J,M⟩:∃f:Nat->Nat,(∀a,a<w.heap.size->f a=C a)∧(∀a,w.heap.size<=a->f a<2000->a<w'.heap.size)∧∀g,vh.ownBlock=some g->f g=100*i+20+d:=by
  cases B:vh.ownBlock with
  | none=>exact⟨C,fun _ _=>rfl,fun a b j=>by have:=h.lt a j;omega,fun g o=>by cases o⟩
  | some q =>
   rcases E q B with c|c
   ·exact⟨C,fun _ _=>rfl,fun a b j=>by have:=h.lt a j;omega,fun g o=>by cases o;exact t _ c⟩
   ·refine⟨bV C q (100*i+20+d),fun a b=>aq (by omega),fun a b j=>?_,fun g o=>by cases o;exact bw _ _ _⟩
    by_cases e:a=q
    ·rw[e];exact(y.own.lt q B).2
    ·rw[aq e]at j
     have:=h.lt a j;omega
 have O:w'.heap[(Y.K i).ls]?=some (.cells #[dv (dY (Y.K i) d ((Y.K i).lb d) vh) (aC (V.nd i) d (x.1,P)) 0,dv (dY (Y.K i) d ((Y.K i).lb d) vh) (aC (V.nd i) d (x.1,P)) 1,dv (dY (Y.K i) d ((Y.K i).lb d) vh) (aC (V.nd i) d (x.1,P)) 2,dv (dY (Y.K i) d ((Y.K i).lb d) vh) (aC (V.nd i) d (x.1,P)) 3,dv (dY (Y.K i) d ((Y.K i).lb d) vh) (aC (V.nd i) d (x.1,P)) 4,dv (dY (Y.K i) d ((Y.K i).lb d) vh) (aC (V.nd i) d (x.1,P)) 5] 111 (0,0)):=by
  rw[I];have c:∀e,dv (dY (Y.K i) d ((Y.K i).lb d) vh) (aC (V.nd i) d (x.1,P)) e=dv (Y.K i) (V.nd i) e:=fun e=>by
   rw[vg]
   by_cases g:e=d
   ·rw[af g,g,gz s]
   ·rw[aa g]
  simp only[c]
 have Q:=l.lead' (C':=f) G v k u p O D y (by rw[p _ (h.lt ((Y.K i).lb d) (by omega))];exact A) M;exact⟨f,_,h.node k r (fun a b=>by have:=u a b;omega) p J Q rfl z (h.inv.node F z),kx rfl,k.mono (fun a b=>by show C a<2000;have:=u a b;omega),p⟩
theorem RW.leadNew{lb:Nat}{a:Int}(h:RW w0 w C Y aw cap zs V m)(g:i<zs.length)(s:d<6)(j:upN (V.nd i)=true)(k:Below w.heap.size w w1)(t:RLd w1 lb i zs.length cap (d:Int) a aw (stB 0) (if a=0 then 2 else 4) (.slice none 0 0) [] 0 0)(M:w.heap.size<=lb)(y:0<=a∧a<=1048576)(l:m<=m'):∃C',RW w0 (w1.setCell ⟨(Y.K i).ls,d,none⟩ (.pointer (some ⟨lb,0,none⟩))) C' { Y with K:=fun e=>if e=i then dY (Y.K i) d lb (.slice none 0 0)else Y.K e } aw cap zs (aA V i (aC (V.nd i) d (a,P0))) m'∧Kept (di C) w (w1.setCell ⟨(Y.K i).ls,d,none⟩ (.pointer (some ⟨lb,0,none⟩)))∧(∀x,x<w.heap.size->C' x=C x)∧∀x,x≠lb->C' x=C x:=by
 have O:=h.n7.2;have f:=h.nds i g;have P:=f.cn;have z:=f.cl;have A:=ah t.row;have B:=ah f.lrow;have Q:=k.size;have o:Kept (In1 (Y.K i).ls) w (w1.setCell ⟨(Y.K i).ls,d,none⟩ (pV lb)):=(Kept.of_below k).set1 d _;have p:∀b,In1 (Y.K i).ls b->C b=100*i+8∨C b=100*i+10+d∨C b=100*i+20+d:=fun b c=>.inl (by rw[show b=_ from c];exact z)
 have D:w1.heap[(Y.K i).ls]?=_:=(k.block _ B).trans f.lrow;have E:(w1.setCell ⟨(Y.K i).ls,d,none⟩ (pV lb)).heap[(Y.K i).ls]?=some (.cells #[dv (dY (Y.K i) d lb (.slice none 0 0)) (aC (V.nd i) d (a,P0)) 0,dv (dY (Y.K i) d lb (.slice none 0 0)) (aC (V.nd i) d (a,P0)) 1,dv (dY (Y.K i) d lb (.slice none 0 0)) (aC (V.nd i) d (a,P0)) 2,dv (dY (Y.K i) d lb (.slice none 0 0)) (aC (V.nd i) d (a,P0)) 3,dv (dY (Y.K i) d lb (.slice none 0 0)) (aC (V.nd i) d (a,P0)) 4,dv (dY (Y.K i) d lb (.slice none 0 0)) (aC (V.nd i) d (a,P0)) 5] 111 (0,0)):=by
  rw[aE w1 (Y.K i).ls d _ _ _ D];simp only[vg];rcases six s with rfl|rfl|rfl|rfl|rfl|rfl<;>rfl
 have q:∀x,x<w.heap.size->bV C lb (100*i+10+d) x=C x:=fun x u=>aq (by omega)
 have F:RLd (w1.setCell ⟨(Y.K i).ls,d,none⟩ (pV lb)) lb i zs.length cap (d:Int) a aw (stB 0) (if a=0 then 2 else 4) (.slice none 0 0) [] 0 0:=t.kept ((Kept.refl (In1 (Y.K i).ls) w1).set1 d _) (fun G=>by have:lb=_:=G;omega) (fun H r=>by cases r);have I:=f.lead' (C':=bV C lb (100*i+10+d)) j s o p q E (Rel.new zs.length a) F (bw _ _ _) (fun H r=>by cases r);have J:(V.nd i).l≠-2:=by unfold upN at j;simpa using j
 have L:=(h.inv.nd i g).putLead (d:=d) (a:=a) (P:=P0) J y (by decide) ⟨Int.le_refl _,by decide⟩ (rX _);refine⟨bV C lb (100*i+10+d),h.node o g (fun b c=>by have:=p b c;omega) q (fun b c v=>?_) I rfl l (h.inv.node (L.mono l) l),o.mono (fun b c=>by show C b<2000;have:=p b c;omega),q,fun x u=>aq u⟩
 by_cases e:b=lb
 ·rw[e];simpa using A
 ·rw[aq e]at v
  have:=h.lt b v;omega
end
section
variable {w0 w w1 w':World} {C C':Nat→Nat} {K:RB} {Y:YB} {aw:Option Addr} {i n cap m m':Nat} {zs:List Int} {N:PN} {V V':PX}
theorem RW.weights(h:RW w0 w C Y aw cap zs V m):∃vb vo,aw=some ⟨vb,vo,none⟩∧vb<w0.heap.size∧∀i,i<zs.length->w.cell? ⟨vb,vo+i,none⟩=some (.int .i64 (zs.getD i 0)):=by
 obtain⟨j,k,b,-,-,c⟩:=h.ws;obtain⟨d,e,f,a⟩:=c (by have:=h.n7.1;omega)
 cases b
 refine⟨d,e,f,?_,fun i g=>ag h.bel (a i g)⟩;have:=a 0 (by have:=h.n7.1;omega);exact bY this
theorem ROut.mono(h:ROut w0 w w' C Y aw cap zs V m)(a:m<=m'):ROut w0 w w' C Y aw cap zs V m':=by
 obtain⟨C',b,c,d,e,f⟩:=h;exact⟨C',b,c.mono a,d,e,f⟩
theorem qf(v:Value)(L:List F9)(h:RW w0 w C Y aw cap zs V m)(j:IsFr w v L)(k:∀f,f∈L->FI zs.length f)(t:L.length<=1000)(E:m<=100000000):Calls prog 83 #[.pointer (some ⟨Y.xb,0,none⟩),v] w fun e w'=>e=.returned (.tuple #[])∧ROut w0 w w' C Y aw cap zs (aW V L) (m+1)∧Kept (fun x=>C x=1001∨C x=1005) w w':=by
 obtain⟨-,-,-,u,-⟩:=h.cells;have F:=h.fz 3;have c:=hid h;have y:=hid j;have z:=hid k;have A:V.fly.length+L.length<=1000000000000:=by have:=h.inv.fl;omega
 have l:=hid h.fly;have B:=h.bel.size;have D:Hid (∀w',w.grownBy w' Y.fv.ownBlock->w'.cell? ⟨Y.xb,3,none⟩=some Y.fv∧w'.frozen? ⟨Y.xb,3,none⟩=false):=by
  intro w' a;have o:=(bZ a).row h.row (fun e=>by have G:=h.cf _ e;have H:=h.cx;omega);exact⟨by rw[ai o];rfl,dN o⟩
 generalize p:Y.fv=I at u l;have q:=hid p;clear h j k p
 go_enter func83,ntmps83
 go_wp2_with (at_builtin;refine dQ rfl _ _ rfl w0.heap.size V.fly.length _ v (am V.fly) L rfl rfl l y A B ?_;intro J M w' r a s;obtain⟨O,P⟩:=D.out w' (by rw[q.out];exact a);have b:=hid (And.intro r (And.intro a s));clear r a s)
 go_end0
 rw[<-q.out]at b;refine⟨rfl,?_,?_⟩
 ·refine c.framed (F:=V.fly++L) (bZ b.2.1) (fun x d=>d) (by rw[aR,cE];exact b.1) ?_ (aP _) (c.inv.send z t)
  rcases b.2.2 with g|g
  ·exact .inr (.inl g)
  ·exact .inr (.inr ⟨_,g,aj⟩)
 ·exact((bZ b.2.1).mono (fun x d=>.inr (c.cf x d))).setCell (.inl c.cx) _
theorem vI{V:PX}{d:Nat}{x:Int×PL}{F:F9}(h:(V.nd i).ld d=some x):dH zs V i d F=aA V i (aC (V.nd i) d (x.1,(aL zs i d x.1 x.2 F).1))∧dq zs V i d F=dm i d x.1 zs.length (aL zs i d x.1 x.2 F).2:=by
 unfold dH dq;rw[h];exact⟨rfl,rfl⟩
theorem aed{V:PX}{d:Nat}{F:F9}(h:(V.nd i).ld d=none):dH zs V i d F=V∧dq zs V i d F=[]:=by
 unfold dH dq;rw[h];exact⟨rfl,rfl⟩
theorem afb{id:Nat}{deal att:Int}{P:PL}{L:LSt}{f:F9}(h:Rel zs.length att P L)(h0:0<=att)(a:zs.length<=7)(b:f.k≠2->0<=f.pr):(aL zs id deal att P f).1.stt<4∧PW zs.length (aL zs id deal att P f).1:=by
 have:=(h.step (id:=id) (deal:=deal) h0 a b).2;exact⟨this.st4,this.pw⟩
theorem NI.hears{d:Nat}{x:Int×PL}{F:F9}{L:LSt}(h:NI zs.length N m)(b:N.ld d=some x)(e:Rel zs.length x.1 x.2 L)(f:zs.length<=7)(g:FI zs.length F):NI zs.length (aC N d (x.1,(aL zs i d x.1 x.2 F).1)) m:=by
 obtain⟨-,j,o,c,p⟩:=h.ld d x b;have a:0<=F.pr∧F.pr<=1048576:=by have:=g.ok.2.2.2.2.2.2.1;omega
 obtain⟨k,l⟩:=afb (id:=i) (deal:=d) (f:=F) e j.1 f (fun _=>a.1);exact h.leadHear b k (mN c.1 c.2 a.1 a.2) l
theorem oX(s:Int)(h:RW w0 w C Y aw cap zs V m)(b:¬(0<=s∧s<V.fly.length))(c:m<=100000000):Calls prog 27 #[.pointer (some ⟨Y.xb,0,none⟩),.int .i64 s] w fun e w'=>e=.returned (.int .i64 4)∧Below w.heap.size w w':=by
 have d:=hid h;have f:=hid c;have g:=hid b;clear h c b
 go_enter func27,ntmps27
 go_wp2_with fail
 refine(uG s d g f).mono ?_;rintro e w1 ⟨rfl,a⟩;have j:=hid (a.trans ((qP w1 0 0 0 0 0 false 0 0 0).mono a.size));clear a
 go_wp2_with fail
 go_ret
 exact⟨rfl,j⟩
end
end Go.Proofs.YtaehdgemkafinaaGreatDoor
