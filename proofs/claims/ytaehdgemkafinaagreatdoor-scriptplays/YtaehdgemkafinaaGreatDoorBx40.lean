/-
  On the way to SPlaysProof: O16 O17 O18 O19 O20.
-/
import Derived.Test.YtaehdgemkafinaaGreatDoorBx38
set_option maxHeartbeats 8000000
set_option maxRecDepth 100000
namespace Go.Proofs.YtaehdgemkafinaaGreatDoor
open Go.RowKit
open Go.Proofs.Tryz
structure EnvO (w0 wc:World) (mb pb bb:Nat) (vs:Nat->Value) (A:Nat->Addr):Prop where
 cmd:CmdO wc mb pb bb vs
 held:Held9 w0 A
 tab:TabO w0
 lm:pb<mb
structure NumO (w:World) (C:Nat->Nat) (nv:Value) (ns:List Int):Prop where
 own:∃B,w.ownsRow B 3 1 nv ns.length (ns.map (Value.int .i64))
 far:∀g,nv.ownBlock=some g->2000<=C g
 rng:∀y,y∈ns->0<=y∧y<100000
section
variable {w0 wc w w':World} {mb pb bb i m m':Nat} {vs:Nat→Value} {C:Nat→Nat} {st:PSt} {A:Nat→Addr} {nv:Value} {ns:List Int}
theorem PlO.box(h:PlO w0 wc w pb C st m){b:Nat}{v:Value}(a:bR wc b v)(d:pb<b):bR w b v:=by
 have c:=h.fz b (bY a) (by omega);show w.cell? ⟨b,0,none⟩=some v;rw[show w.cell? ⟨b,0,none⟩=wc.cell? ⟨b,0,none⟩ by simp only[World.cell?,c]];exact a
theorem NumO.one(h:NumO w C nv ns)(e:ns.length=1):∃(g cap a:Nat),nv=.slice (some ⟨g,0,none⟩) 1 cap∧w.cell? ⟨g,0,none⟩=some (.int .i64 (a:Int))∧ns=[(a:Int)]∧a<100000∧2000<=C g:=by
 obtain⟨l,c⟩:=h.own;obtain⟨b,rfl⟩:∃b,ns=[b]:=by
  match ns,e with
  | [b],_=>exact⟨b,rfl⟩
 obtain⟨f,n⟩:=h.rng b (List.mem_singleton.2 rfl);obtain⟨a,rfl⟩:=bD f;have j:=c;rcases c.2 with⟨d,k⟩|⟨g,cap,o,d,-⟩
 ·cases k
 ·subst d
  have:=j.cells rfl 0 (iV (a:Int)) rfl;rw[cZ]at this;exact⟨g,cap,a,rfl,this,rfl,by omega,h.far g rfl⟩
theorem NumO.two(h:NumO w C nv ns)(n:ns.length=2):∃(g cap a b:Nat),nv=.slice (some ⟨g,0,none⟩) 2 cap∧w.cell? ⟨g,0,none⟩=some (.int .i64 (a:Int))∧w.cell? ⟨g,1,none⟩=some (.int .i64 (b:Int))∧ns=[(a:Int),(b:Int)]∧a<100000∧b<100000∧2000<=C g:=by
 obtain⟨r,e⟩:=h.own;obtain⟨c,d,rfl⟩:∃c d,ns=[c,d]:=by
  match ns,n with
  | [c,d],_=>exact⟨c,d,rfl⟩
 obtain⟨o,s⟩:=h.rng c (by simp);obtain⟨p,t⟩:=h.rng d (by simp);obtain⟨a,rfl⟩:=bD o;obtain⟨b,rfl⟩:=bD p;have f:=e;rcases e.2 with⟨j,q⟩|⟨g,cap,u,j,-⟩
 ·cases q
 ·subst j
  have k:=f.cells rfl 0 (iV (a:Int)) rfl;have l:=f.cells rfl 1 (iV (b:Int)) rfl;rw[cZ]at k l;exact⟨g,cap,a,b,rfl,k,l,rfl,by omega,by omega,h.far g rfl⟩
theorem afK{s:St}(h:s.good):s.ph<=5∧s.pr<=1048576∧s.at_<=1048576:=⟨h.1,h.2.1,bc h.2.2 h.2.1⟩
def DoR(w0 wc w:World)(pb:Nat)(C:Nat->Nat)(A:Nat->Addr)(zs:List Int)(r:Nat×PX)(m:Nat)(v:Value)(w':World):Prop:=v=ev A r.1∧NextO w0 wc w w' pb C (some (zs,r.2)) m
theorem acT{X:XB}{zs:List Int}{V:PX}{k:Nat}{a b:Int}(h:PlO w0 wc w pb C (some (zs,V)) m)(f:w.heap[pb]?=some (.cells #[az X.xb,.int .i64 (zs.length:Int)] 47 (0,0)))(c:XI zs V k)(g:AX zs V)(n:k+3*pot zs V<=m)(o:m<800000)(p:m+672<=m')(j:0<=a)(l:0<=b){v:Value}(d:OpR w0 w C X zs A (opP zs V i a b) (k+42) v w'):DoR w0 wc w pb C A zs (opP zs V i a b) m' v w':=by
 have e:Stp zs V (opP zs V i a b).2:=rW j l;have q:=e.pot c;exact⟨d.1,NextO.of_out h f d.2 (e.ax g c (by omega)).1 (by omega)⟩
theorem lQ{zs:List Int}{V:PX}{c:Nat}(t:∀xb a b,∃f g,adk xb a b i c f g)(e:EnvO w0 wc mb pb bb vs A)(h:PlO w0 wc w pb C (some (zs,V)) m)(u:NumO w C nv ns)(v:ns.length=2)(x:m<800000)(y:m+672<=m'):Calls prog c #[nv,az bb] w (cY (DoR w0 wc w pb C A zs (opP zs V i (ns.getD 0 0) (ns.getD 1 0)) m')):=by
 obtain⟨j,I,d,k,z,B⟩:=h.st;have l:=h.box e.cmd.box e.cmd.lb;have D:2000<=C bb:=h.far2 (bY e.cmd.box);have E:2000<=C pb:=h.far2 h.lp;have n:bR w pb (az j.xb):=aG _ _ 0 _ _ _ d;obtain⟨J,cap,a,b,rfl,o,p,rfl,K,F,q⟩:=u.two v;obtain⟨f,g,r⟩:=t j.xb a b;exact(ajt r l n o p (ajx a b r k e.held (by omega) F) (fun s L d=>⟨d.cell l D,d.cell n E,d.cell o q,d.cell p q⟩)).mono fun M N ⟨s,G,H⟩=>⟨s,G,acT h d k.inv z B x y (Int.natCast_nonneg a) (Int.natCast_nonneg b) H⟩
theorem kn{zs:List Int}{V:PX}{c:Nat}(q:∀xb a,∃f e,aew xb a i c f e)(d:EnvO w0 wc mb pb bb vs A)(h:PlO w0 wc w pb C (some (zs,V)) m)(r:NumO w C nv ns)(s:ns.length=1)(t:m<800000)(u:m+672<=m'):Calls prog c #[nv,az bb] w (cY (DoR w0 wc w pb C A zs (opP zs V i (ns.getD 0 0) (ns.getD 1 0)) m')):=by
 obtain⟨g,F,b,j,v,x⟩:=h.st;have k:=h.box d.cmd.box d.cmd.lb;have y:2000<=C bb:=h.far2 (bY d.cmd.box);have z:2000<=C pb:=h.far2 h.lp;have l:bR w pb (az g.xb):=aG _ _ 0 _ _ _ b;obtain⟨G,cap,a,rfl,n,rfl,H,B⟩:=r.one s;obtain⟨f,e,o⟩:=q g.xb a;exact(ajD o k l n (ajE a 0 o j d.held (by omega)) (fun p I b=>⟨b.cell k y,b.cell l z,b.cell n B⟩)).mono fun J K ⟨p,D,E⟩=>⟨p,D,acT h b j.inv v x t u (Int.natCast_nonneg a) (Int.le_refl 0) E⟩
theorem aen{zs:List Int}{V:PX}(a:EnvO w0 wc mb pb bb vs A)(h:PlO w0 wc w pb C (some (zs,V)) m)(j:m+672<=m'):Calls prog 59 #[nv,az bb] w (cY (DoR w0 wc w pb C A zs (opP zs V 12 (ns.getD 0 0) (ns.getD 1 0)) m')):=by
 obtain⟨k,l,b,c,d,n⟩:=h.st;have e:=h.box a.cmd.box a.cmd.lb;exact(afT e c a.held (aG _ _ 0 _ _ _ b) (aG _ _ 1 _ _ _ b) d).mono fun o p ⟨f,g⟩=>⟨_,f,rfl,NextO.of_below h g (by omega)⟩
theorem rA{zs:List Int}{V:PX}{r:Nat×Bs}{s:ByteArray}{e:Value}(h:PlO w0 wc w pb C (some (zs,V)) m)(a:Below w.heap.size w w')(b:m<=m')(c:aeP A r s e):fZ w0 wc w pb C A (r,some (zs,V)) m' (.tuple #[.string s,e]) w':=⟨s,e,rfl,c,NextO.of_below h a b⟩
theorem aaA{zs:List Int}{V:PX}(a:EnvO w0 wc mb pb bb vs A)(h:PlO w0 wc w pb C (some (zs,V)) m)(t:m<800000)(u:m+672<=m'):Calls prog 63 #[nv,az bb] w (cY (fZ w0 wc w pb C A (cz (some (zs,V)) 13 ns) m')):=by
 obtain⟨v,j,b,c,k,d⟩:=h.st;have l:=h.box a.cmd.box a.cmd.lb;have n:∀w',Kept (di C) w w'->TabO w':=fun w' d=>by
  obtain⟨o,p,e⟩:=a.tab;have q:=ah e;have f:=(h.bel.block _ q).trans e;have x:=h.lo;have y:=h.lp;have z:2000<=C 10:=h.far2 (by omega);exact⟨o,p,(d.block _ (ah f) (fun g=>by have B:C 10<2000:=g;omega)).trans f⟩
 refine(agE l c a.held n (aG _ _ 0 _ _ _ b) (h.far2 h.lp) (by omega)).mono fun g D ⟨r,E,F,s⟩=>⟨_,r,_,_,rfl,⟨rfl,fun _=>rfl⟩,?_⟩
 exact NextO.of_out h b s (rt 3000 V j k c.inv (by omega)) (by show _+3*pot zs (dc zs 3000 V)<=_;omega)
theorem zQ{zs:List Int}{V:PX}(a:EnvO w0 wc mb pb bb vs A)(h:PlO w0 wc w pb C (some (zs,V)) m)(f:m<800000)(g:m+672<=m'):Calls prog 66 #[nv,az bb] w (cY (fZ w0 wc w pb C A (cz (some (zs,V)) 14 ns) m')):=by
 obtain⟨j,k,b,c,l,n⟩:=h.st;exact(agB (h.box a.cmd.box a.cmd.lb) c (a.tab.later h.bel) (aG _ _ 0 _ _ _ b) (by omega)).mono fun o p ⟨d,e⟩=>⟨_,d,rA h e (by omega) ⟨rfl,fun _=>rfl⟩⟩
theorem zn{zs:List Int}{V:PX}(a:EnvO w0 wc mb pb bb vs A)(h:PlO w0 wc w pb C (some (zs,V)) m)(n:m+672<=m'):Calls prog 74 #[nv,az bb] w (cY (fZ w0 wc w pb C A (cz (some (zs,V)) 18 ns) m')):=by
 obtain⟨o,p,e,c,f,q⟩:=h.st;have r:=c.n7;exact(ahj (h.box a.cmd.box a.cmd.lb) c (a.tab.later h.bel) (aG _ _ 0 _ _ _ e) (fun d b=>by obtain⟨i,g,j,k,s,t,-⟩:=f.ex.at_ d b;exact⟨i,g,j,k,by omega,by omega⟩)).mono fun d u ⟨b,l⟩=>⟨_,b,rA h l (by omega) ⟨rfl,fun _=>rfl⟩⟩
theorem dW(h:Below w.drew.heap.size w.drew w'):Below w.heap.size w w':=⟨h.os,h.tape,h.output,h.size,h.block⟩
def aaE(w:World)(A:Nat->Addr)(r:Nat×Bs)(v:Value)(w':World):Prop:=(∃s e,v=.tuple #[.string s,e]∧aeP A r s e)∧Below w.heap.size w w'
theorem pE{zs:List Int}{V:PX}{r:Nat×Bs}{v:Value}(h:PlO w0 wc w pb C (some (zs,V)) m)(a:m<=m')(ht:aaE w A r v w'):fZ w0 wc w pb C A (r,some (zs,V)) m' v w':=by
 obtain⟨⟨d,e,rfl,b⟩,c⟩:=ht;exact rA h c a b
theorem zC{zs:List Int}{V:PX}(d:EnvO w0 wc mb pb bb vs A)(h:PlO w0 wc w pb C (some (zs,V)) m)(q:NumO w C nv ns)(r:ns.length=2)(G:m+672<=m'):Calls prog 68 #[nv,az bb] w (cY (fZ w0 wc w pb C A (cz (some (zs,V)) 15 ns) m')):=by
 obtain⟨s,H,t,j,I,J⟩:=h.st;obtain⟨K,cap,a,b,rfl,u,v,rfl,L,f,M⟩:=q.two r;have k:bR w.drew pb (az s.xb):=aG _ _ 0 _ _ _ t;have x:TabO w:=d.tab.later h.bel;have y:TabO w.drew:=x;have z:Calls prog 69 #[az pb,iV (a:Int),iV (b:Int)] w.drew (cY fun e w'=>∃l g,e=.tuple #[.string l,g]∧aaE w A (ia zs V 15 (a:Int) (b:Int)).1 e w'):=by
  by_cases n:(a:Int)<zs.length∧(b:Int)<6
  ·have c:(ia zs V 15 (a:Int) (b:Int)).1=(0,iR (stN (V.nd a) b).ph (stN (V.nd a) b).pr (stN (V.nd a) b).at_):=by
    show(if(a:Int)<zs.length∧(b:Int)<6 then _ else _)=_;rw[af n,aU,aU]
   rw[c];have B:=(j.inv.nd a (by omega)).gd b (by omega);obtain⟨N,D,E⟩:=afK B;exact(ue a b _ _ _ j.drewn d.held y k (by omega) (by omega) (show stN (V.nd a) b=⟨(stN (V.nd a) b).ph,(stN (V.nd a) b).pr,(stN (V.nd a) b).at_⟩from rfl) (bc D (by decide)) (bc E (by decide))).mono fun g o ⟨c,f⟩=>⟨_,c,_,_,rfl,⟨_,_,rfl,rfl,fun _=>rfl⟩,dW f⟩
  ·have c:(ia zs V 15 (a:Int) (b:Int)).1=(2,[]):=by
    show(if(a:Int)<zs.length∧(b:Int)<6 then _ else _)=_;rw[aa n]
   rw[c];exact(vH (a:Int) (b:Int) j.drewn d.held k (by omega)).mono fun g o ⟨c,f⟩=>⟨_,c,_,_,rfl,⟨_,_,rfl,rfl,fun h=>by cases h⟩,dW f⟩
 refine(ag9 (h.box d.cmd.box d.cmd.lb) u v z (fun e O p=>p.2)).mono fun g o ⟨e,c,l,P,p,F⟩=>⟨e,c,pE h (by omega) F⟩
theorem zN{zs:List Int}{V:PX}(f:EnvO w0 wc mb pb bb vs A)(h:PlO w0 wc w pb C (some (zs,V)) m)(q:NumO w C nv ns)(r:ns.length=2)(B:m+672<=m'):Calls prog 70 #[nv,az bb] w (cY (fZ w0 wc w pb C A (cz (some (zs,V)) 16 ns) m')):=by
 obtain⟨g,D,s,j,E,F⟩:=h.st;obtain⟨G,cap,a,b,rfl,t,u,rfl,H,k,I⟩:=q.two r;have v:bR w pb (az g.xb):=aG _ _ 0 _ _ _ s;have x:Calls prog 71 #[az g.xb,iV (a:Int),iV (b:Int)] w.drew (cY fun d w'=>∃l e,d=.tuple #[.string l,e]∧aaE w A (ia zs V 16 (a:Int) (b:Int)).1 d w'):=by
  by_cases n:(a:Int)<zs.length∧(b:Int)<6
  ·have c:(ia zs V 16 (a:Int) (b:Int)).1=(0,(il (V.nd a) b).data.toList):=by
    show(if(a:Int)<zs.length∧(b:Int)<6 then _ else _)=_;rw[af n,aU,aU]
   rw[c];refine(agR a b j.drewn (by omega) (by omega)).mono fun e o ⟨c,y⟩=>⟨_,c,_,_,rfl,⟨_,_,rfl,rfl,fun _=>rfl⟩,?_⟩
   subst y;exact dW aF
  ·have c:(ia zs V 16 (a:Int) (b:Int)).1=(2,[]):=by
    show(if(a:Int)<zs.length∧(b:Int)<6 then _ else _)=_;rw[aa n]
   rw[c];exact(afW (a:Int) (b:Int) j.drewn f.held (by omega)).mono fun e o ⟨c,k⟩=>⟨_,c,_,_,rfl,⟨_,_,rfl,rfl,fun h=>by cases h⟩,dW k⟩
 refine(afO (h.box f.cmd.box f.cmd.lb) v t u x (fun d J p=>p.2)).mono fun e o ⟨d,c,l,K,p,z⟩=>⟨d,c,pE h (by omega) z⟩
theorem aau{zs:List Int}{V:PX}(e:EnvO w0 wc mb pb bb vs A)(h:PlO w0 wc w pb C (some (zs,V)) m)(p:NumO w C nv ns)(q:ns.length=1)(x:m+672<=m'):Calls prog 72 #[nv,az bb] w (cY (fZ w0 wc w pb C A (cz (some (zs,V)) 17 ns) m')):=by
 obtain⟨r,y,s,g,z,B⟩:=h.st;obtain⟨D,cap,a,rfl,t,rfl,E,F⟩:=p.one q;have j:bR w.drew pb (az r.xb):=aG _ _ 0 _ _ _ s;have u:Calls prog 73 #[az pb,iV (a:Int)] w.drew (cY fun c w'=>∃k d,c=.tuple #[.string k,d]∧aaE w A (ia zs V 17 (a:Int) 0).1 c w'):=by
  by_cases l:(a:Int)<zs.length
  ·have b:(ia zs V 17 (a:Int) 0).1=(0,if upN (V.nd a)=true then[117,112]else[100,111,119,110]):=by
    show(if(a:Int)<zs.length then _ else _)=_;rw[af l,aU]
   rw[b];exact(tQ a g.drewn j (by omega)).mono fun d n ⟨b,f⟩=>⟨_,b,_,_,rfl,⟨_,_,rfl,rfl,fun _=>by split<;>rfl⟩,dW f⟩
  ·have b:(ia zs V 17 (a:Int) 0).1=(2,[]):=by
    show(if(a:Int)<zs.length then _ else _)=_;rw[aa l]
   rw[b];exact(uA (a:Int) g.drewn e.held j (by omega)).mono fun d n ⟨b,f⟩=>⟨_,b,_,_,rfl,⟨_,_,rfl,rfl,fun h=>by cases h⟩,dW f⟩
 refine(agJ (h.box e.cmd.box e.cmd.lb) t u (fun c G o=>o.2)).mono fun d n ⟨c,b,k,H,o,v⟩=>⟨c,b,pE h (by omega) v⟩
end
def rv:Value:=.agg #[.string ⟨#[]⟩,.bool false,.nilFunc]
theorem afc(w:World):(zeroValue 84).run prog w=.ok rv w:=by
 have:=Tryz.zeroValue84;exact this w
def tF(vs:Nat->Value)(s:Bs):Value:=match dB s with
 | none=>.tuple #[rv,.bool false]
 | some i=>.tuple #[vs i,.bool true]
theorem uS{w:World}{l pb bb:Nat}{b:Nat->Value}(h:CmdO w l pb bb b)(s:ByteArray)(x:s.size<=1000000):(Instr.lookup 48 (.map (some l)) (.string s) true).run prog w=.ok (tF b s.data.toList) w:=by
 obtain⟨y,z,m,f⟩:=h.own;obtain⟨A,clock,n,o,-,rfl⟩:=m;have p:=WideMaps.keyOf_string_mk (P:=prog) (s:=s) underlying9 (by unfold maxLen;omega);unfold tF;rcases Maps.fit_look true qE underlying48 (afc w) n o p with⟨g,-,i⟩|⟨j,q,-,-,g,r,i,-⟩
 ·rw[g]
  cases d:dB s.data.toList with
  | none=>rfl
  | some e =>
   have a:=f s.data.toList .nil;rw[i .nil,d]at a;have c:(DataW.nil:DataW Value)=.held (b e):=a;injection c
 ·rw[g]
  have a:=f s.data.toList .nil;have k:=f s.data.toList (.lit (.bool true));rw[i]at a k
  cases d:dB s.data.toList with
  | none =>
   rw[d]at a k;have c:(DataW.nil:DataW Value)=.lit (.bool true):=a.symm.trans k;injection c
  | some e =>
   rw[d]at a;have c:some ((DataW.held j.val:DataW Value),([]:List MemPlace))=some q:=r;have t:=bF c;rw[<-t]at a;have u:(DataW.held j.val:DataW Value)=.held (b e):=a;have v:j.val=b e:=by injection u
   rw[v];rfl
section
variable {w0 wc w w':World} {mb pb bb i m m':Nat} {vs:Nat→Value} {C:Nat→Nat} {st:PSt} {A:Nat→Addr} {nv:Value} {ns:List Int}
theorem ahq{zs:List Int}{V:PX}{v:Value}(a:1<=i∧i<=12)(h:DoR w0 wc w pb C A zs (opP zs V i (ns.getD 0 0) (ns.getD 1 0)) m' v w'):fZ w0 wc w pb C A (cz (some (zs,V)) i ns) m' (.tuple #[.string ⟨#[111,107]⟩,v]) w':=by
 have b:cz (some (zs,V)) i ns=(((opP zs V i (ns.getD 0 0) (ns.getD 1 0)).1,[111,107]),some (zs,(opP zs V i (ns.getD 0 0) (ns.getD 1 0)).2)):=by
  unfold cz;rw[aa (by omega)];simp only;rw[af a.2]
 rw[b];exact⟨_,_,rfl,⟨h.1,fun _=>rfl⟩,h.2⟩
theorem ahV{zs:List Int}{V:PX}(g:1<=i∧i<=12)(a:EnvO w0 wc mb pb bb vs A)(h:PlO w0 wc w pb C (some (zs,V)) m)(c:NumO w C nv ns)(d:ns.length=(dj.getD i []).length)(e:m<800000)(b:m+672<=m'):Calls prog (fnO i) #[nv,az bb] w (cY (DoR w0 wc w pb C A zs (opP zs V i (ns.getD 0 0) (ns.getD 1 0)) m')):=by
 have f:i=1∨i=2∨i=3∨i=4∨i=5∨i=6∨i=7∨i=8∨i=9∨i=10∨i=11∨i=12:=by omega
 rcases f with rfl|rfl|rfl|rfl|rfl|rfl|rfl|rfl|rfl|rfl|rfl|rfl
 ·exact lQ (fun _ _ _=>⟨_,_,.inl ⟨rfl,rfl,rfl,rfl⟩⟩) a h c d e b
 ·exact lQ (fun _ _ _=>⟨_,_,.inr (.inl ⟨rfl,rfl,rfl,rfl⟩)⟩) a h c d e b
 ·exact kn (fun _ _=>⟨_,_,.inl ⟨rfl,rfl,rfl,rfl⟩⟩) a h c d e b
 ·exact kn (fun _ _=>⟨_,_,.inr (.inl ⟨rfl,rfl,rfl,rfl⟩)⟩) a h c d e b
 ·exact kn (fun _ _=>⟨_,_,.inr (.inr (.inl ⟨rfl,rfl,rfl,rfl⟩))⟩) a h c d e b
 ·exact kn (fun _ _=>⟨_,_,.inr (.inr (.inr (.inl ⟨rfl,rfl,rfl,rfl⟩)))⟩) a h c d e b
 ·exact lQ (fun _ _ _=>⟨_,_,.inr (.inr (.inl ⟨rfl,rfl,rfl,rfl⟩))⟩) a h c d e b
 ·exact lQ (fun _ _ _=>⟨_,_,.inr (.inr (.inr (.inl ⟨rfl,rfl,rfl,rfl⟩)))⟩) a h c d e b
 ·exact lQ (fun _ _ _=>⟨_,_,.inr (.inr (.inr (.inr (⟨rfl,rfl,rfl,rfl⟩))))⟩) a h c d e b
 ·exact kn (fun _ _=>⟨_,_,.inr (.inr (.inr (.inr (.inl ⟨rfl,rfl,rfl,rfl⟩))))⟩) a h c d e b
 ·exact kn (fun _ _=>⟨_,_,.inr (.inr (.inr (.inr (.inr (⟨rfl,rfl,rfl,rfl⟩)))))⟩) a h c d e b
 ·exact aen a h b
theorem aeT{zs:List Int}{V:PX}(g:13<=i∧i<19)(a:EnvO w0 wc mb pb bb vs A)(h:PlO w0 wc w pb C (some (zs,V)) m)(c:NumO w C nv ns)(d:ns.length=(dj.getD i []).length)(e:m<800000)(b:m+672<=m'):Calls prog (fnO i) #[nv,az bb] w (cY (fZ w0 wc w pb C A (cz (some (zs,V)) i ns) m')):=by
 have f:i=13∨i=14∨i=15∨i=16∨i=17∨i=18:=by omega
 rcases f with rfl|rfl|rfl|rfl|rfl|rfl
 ·exact aaA a h e b
 ·exact zQ a h e b
 ·exact zC a h c d b
 ·exact zN a h c d b
 ·exact aau a h c d b
 ·exact zn a h b
theorem qR(b:1<=i∧i<19):∀args w,(callFunc (fnO i) args).run prog w=.ok (.enter (fnO i) args) w:=by
 have a:i=1∨i=2∨i=3∨i=4∨i=5∨i=6∨i=7∨i=8∨i=9∨i=10∨i=11∨i=12∨i=13∨i=14∨i=15∨i=16∨i=17∨i=18:=by omega
 rcases a with rfl|rfl|rfl|rfl|rfl|rfl|rfl|rfl|rfl|rfl|rfl|rfl|rfl|rfl|rfl|rfl|rfl|rfl
 ·exact enters_of func38 (by kernel_rfl) rfl
 ·exact enters_of func40 (by kernel_rfl) rfl
 ·exact enters_of func42 (by kernel_rfl) rfl
 ·exact enters_of func44 (by kernel_rfl) rfl
 ·exact enters_of func46 (by kernel_rfl) rfl
 ·exact enters_of func48 (by kernel_rfl) rfl
 ·exact enters_of func50 (by kernel_rfl) rfl
 ·exact enters_of func52 (by kernel_rfl) rfl
 ·exact enters_of func53 (by kernel_rfl) rfl
 ·exact enters_of func55 (by kernel_rfl) rfl
 ·exact enters_of func57 (by kernel_rfl) rfl
 ·exact enters_of func59 (by kernel_rfl) rfl
 ·exact enters_of func63 (by kernel_rfl) rfl
 ·exact enters_of func66 (by kernel_rfl) rfl
 ·exact enters_of func68 (by kernel_rfl) rfl
 ·exact enters_of func70 (by kernel_rfl) rfl
 ·exact enters_of func72 (by kernel_rfl) rfl
 ·exact enters_of func74 (by kernel_rfl) rfl
theorem ux{r:(Nat×Bs)×PSt}{v:Value}(h:fZ w0 wc w pb C A r m' v w'):∃s e,v=.tuple #[.string s,e]∧fZ w0 wc w pb C A r m' v w':=by
 obtain⟨s,e,a,b,c⟩:=h;exact⟨s,e,a,s,e,a,b,c⟩
theorem abT(l:1<=i∧i<19)(n:EnvO w0 wc mb pb bb vs A)(h:PlO w0 wc w pb C st m)(u:NumO w C nv ns)(v:ns.length=(dj.getD i []).length)(z:m<800000)(B:m+672<=m'){f:Value}(H:aiA w pb bb i f):∃x y,f=.func (.func 128) #[] #[az x,az y]∧Calls prog 128 #[nv,az x,az y] w (cY (fZ w0 wc w pb C A (cz st i ns) m')):=by
 have key:∀x y,bR w x (az pb)->(∀c d,st=some (c,d)->∃e o,bR w y (fj e o)∧(∀args w,(callFunc e args).run prog w=.ok (.enter e args) w)∧Calls prog e #[nv,az o] w (cY fun a w'=>∃D g,a=.tuple #[.string D,g]∧fZ w0 wc w pb C A (cz (some (c,d)) i ns) m' a w'))->Calls prog 128 #[nv,az x,az y] w (cY (fZ w0 wc w pb C A (cz st i ns) m')):=by
  intro x y E I
  cases st with
  | none =>
   have J:cz none i ns=((4,[]),none):=by
    unfold cz;rw[aa (by omega)]
   rw[J];have K:=(n.held.later h.bel).var 3 (by decide);have p:w.heap[pb]?=some (.cells #[.pointer none,iV 0] 47 (0,0)):=h.st;exact(wE (A:=A) K E (aG _ _ 0 _ _ _ p)).mono fun g q ⟨b,L⟩=>⟨_,b,_,_,rfl,⟨rfl,fun M=>by cases M⟩,NextO.of_below h L (by omega)⟩
  | some N =>
   obtain⟨c,d⟩:=N;obtain⟨e,o,O,P,Q⟩:=I c d rfl;obtain⟨T,U,p,-⟩:=h.st;exact(wY P E (aG _ _ 0 _ _ _ p) O Q).mono fun g q ⟨a,b,D,V,F,j⟩=>⟨a,b,j⟩
 rcases H with⟨W,-⟩|⟨k,G,x,y,R,rfl,r,s,S,-⟩|⟨k,x,y,rfl,r,s,-⟩
 ·omega
 ·refine⟨x,y,rfl,key x y r fun c d t=>?_⟩
  subst t;refine⟨99,R,s,enters_of func99 (by kernel_rfl) rfl,?_⟩;refine(abn (qR l) S (ahV ⟨k,G⟩ n h u v z B)).mono fun g q ⟨a,b,X,F,j⟩=>⟨a,b,?_⟩
  subst F;exact ux (ahq ⟨k,G⟩ j)
 ·refine⟨x,y,rfl,key x y r fun c d t=>?_⟩
  subst t;refine⟨fnO i,bb,s,qR l,?_⟩;exact(aeT ⟨k,l.2⟩ n h u v z B).mono fun g q ⟨a,b,j⟩=>⟨a,b,ux j⟩
theorem PlO.cmd(h:PlO w0 wc w pb C st m)(b:EnvO w0 wc mb pb bb vs A):CmdO w mb pb bb vs:=by
 have a:=b.cmd;refine⟨?_,h.box a.box a.lb,a.lb,fun i d=>(a.ent i d).stay (fun r s e f=>h.box f e)⟩;obtain⟨g,j,⟨k,l,c,n,o,p⟩,q⟩:=a.own;exact⟨g,j,⟨k,l,(h.fz mb (ah c) (by have:=b.lm;omega)).trans c,n,o,p⟩,q⟩
end
theorem sN(s:ByteArray):1<=(cB s).length:=by
 have a:=Lib.splitB_all dp (by decide) 0 _ s rfl;unfold cB;rw[a];omega
theorem qv(a:Bs):∀(k:Nat) (s x:Bs),x∈Lib.splitK a 0 k s->x.length<=s.length
 | 0,s,x,h=>by rw[List.mem_singleton.1 h];exact aj
 | k+1,s,x,h=>by
  unfold Lib.splitK at h
  split at h
  ·rw[List.mem_singleton.1 h];exact aj
  ·rcases List.mem_cons.1 h with rfl|h
   ·rw[bI];omega
   ·have:=qv a k _ x h
    rw[List.length_drop]at this;omega
theorem sJ{s x:ByteArray}(h:x∈cB s):x.size<=s.size:=by
 have a:x.data.toList∈(cB s).map (·.data.toList):=List.mem_map.2 ⟨x,h,rfl⟩;unfold cB at a;rw[Lib.splitB_data]at a;exact qv _ _ _ _ a
theorem oy(w:World)(t:TypeId)(xs:List ByteArray)(i:Nat)(x:ByteArray)(h:xs[i]?=some x):(w.alloc (.cells (xs.map Value.string).toArray t)).cell? ⟨w.heap.size,i,none⟩=some (.string x):=by
 have:=fM w (xs.map Value.string) t i (.string x) (by rw[List.getElem?_map,h];rfl);rw[cZ,Nat.zero_add]at this;exact this
section
variable {w0 wc w w':World} {mb pb bb i m m':Nat} {vs:Nat→Value} {C:Nat→Nat} {st:PSt} {A:Nat→Addr}
theorem acE(b:ByteArray)(k:EnvO w0 wc mb pb bb vs A)(h:PlO w0 wc w pb C st m)(K:b.size<=1000)(F:m<=m')(g:dB (((cB b).map (·.data.toList)).headD [])=none):Calls prog 76 #[.map (some mb),.string b] w (cY (fZ w0 wc w pb C A (cM st ((cB b).map (·.data.toList))) m')):=by
 have t:cM st ((cB b).map (·.data.toList))=((1,[]),st):=by unfold cM;rw[g]
 rw[t];have l:=hid (sx b w (by omega));obtain⟨e,u⟩:=nmd (cB b);have n:=sN b;have v:∀f,f∈e->f.size<=b.size:=fun f x=>sJ (by rw[u.out];exact x)
 rw[u.out]at l g n;obtain⟨a,c,rfl⟩:∃a c,e=a::c:=by
  cases e with
  | nil=>simp at n
  | cons f c=>exact⟨f,c,rfl⟩
 obtain⟨o,y⟩:=nmd ((a::c).length);obtain⟨d,p⟩:=nmd (w.alloc (.cells ((a::c).map Value.string).toArray 9));have q:bW w d:=by rw[<-p.out];exact aD
 have L:d.cell? ⟨w.heap.size,0,none⟩=some (.string a):=by rw[<-p.out];exact oy w 9 (a::c) 0 a rfl
 have z:=hid (h.later q);have r:=uS (z.cmd k) a (by have:=v a List.mem_cons_self;omega);have B:dB a.data.toList=none:=g;unfold tF at r;rw[B]at r;unfold rv at r;have D:=hid q;have G:=hid h;have E:d.cell? ⟨1,0,none⟩=some (.iface 318 (.pointer (some (A 0)))):=(k.held.later z.bel).var 0 (by decide);rw[y.out,p.out]at l;rw[y.out]at n;have M:(0:Int)<(o:Int):=by omega
 clear g v q B h k t
 go_enter func76,ntmps76
 go_wp2_with fail
 refine l.mono ?_;rintro N H ⟨rfl,x⟩;subst H
 go_wp2_with fail
 obtain⟨j,s⟩:=nmd (d.alloc (.cells #[.string ⟨#[]⟩,.bool false,.nilFunc] 84));have I:Hid (bW w j):=by rw[<-s.out];exact D.alloc D.size _
 have O:j.cell? ⟨1,0,none⟩=some (.iface 318 (.pointer (some (A 0)))):=by rw[<-s.out];exact bM _ E
 rw[s.out];clear E
 go_quiet (fail)
 go_wp2_with fail
 go_ret2
 exact⟨_,rfl,_,_,rfl,⟨rfl,fun J=>by cases J⟩,NextO.of_below G (aJ I _) F⟩
theorem yx(b:i<19):(ef i).size<=5∧((i==0)=true->0<(ef i).size):=by
 have:∀a,a<19->(ef a).size<=5∧((a==0)=true->0<(ef a).size):=by decide +kernel
 exact this i b
theorem yW(b n:Nat)(h:1<=n)(c:n<=1000000)(w:World):(Instr.slice 22 (.slice (some ⟨b,0,none⟩) n n) (some (.int .i64 1)) none none).run prog w=.ok (.slice (some ⟨b,if n=1 then 0 else 1,none⟩) (n-1) (n-1)) w:=by
 have d:(1:Int)<=(n:Int):=by omega
 by_cases a:n=1
 ·subst a
  rw[af rfl]
  go_simp
 ·rw[aa a]
  go_simp
theorem qc{f:Bs}{eD:Bool}{b:List Bs}{a:List Int}(h:dK f eD b=some a):a.length=b.length∧∀y,y∈a->0<=y∧y<100000:=by
 unfold dK at h
 split at h
 ·cases h
 ·exact iX h
theorem ab0{f:Bs}{b:List Bs}{a:List Int}(h:dK f false b=some a):a.length=f.length:=by
 have d:=(qc h).1;unfold dK at h
 split at h
 ·cases h
 ·rename_i c
  simp only[and_true]at c;omega
theorem wt{c:PSt}{w1:World}(a:Below w.heap.size w w1)(h:NextO w0 wc w1 w' pb C c m'):NextO w0 wc w w' pb C c m':=by
 obtain⟨f,g,b,j⟩:=h;refine⟨f,g,⟨b.os.trans a.os,b.tape.trans a.tape,b.output.trans a.output,bc a.size b.size,fun d e k=>(b.block d (bm e a.size) k).trans (a.block d e)⟩,fun l n o=>j l (bm n a.size) o⟩
theorem sF(c:ByteArray)(q:Option (List Int))(k:Nat)(n o:Array Value)(S:Value->Array Value)(hk:(k=36∧n=#[az pb]∧o=#[]∧S=fun T=>#[az pb,T])∨∃x y,k=128∧n=#[]∧o=#[az x,az y]∧S=fun T=>#[T,az x,az y])(a9:∀j e p,q=some j->PlO w0 wc e pb C st m->NumO e C p j->IsSl e p j->Calls prog k (S p) e (cY (fZ w0 wc e pb C A (cz st i j) m')))(hi:i<19)(U:EnvO w0 wc mb pb bb vs A)(h:PlO w0 wc w pb C st m)(hs:c.size<=1000)(c7:m+672<=m')(I:dB (((cB c).map (·.data.toList)).headD [])=some i)(J:dK (dj.getD i []) (i==0) (((cB c).map (·.data.toList)).tail)=q)(hv:vs i=.agg #[.string (ef i),.bool (i==0),.func (.func k) n o]):Calls prog 76 #[.map (some mb),.string c] w (cY (fZ w0 wc w pb C A (cM st ((cB c).map (·.data.toList))) m')):=by
 have hr:cM st ((cB c).map (·.data.toList))=q.elim ((1,[]),st) (fun j=>cz st i j):=by
  unfold cM;rw[I];simp only
  cases q<;>(rw[J];rfl)
 rw[hr];have K:=hid (sx c w (by omega));obtain⟨z,b0⟩:=nmd (cB c);have L:=sN c;have b1:(cB c).length<=1001:=by
  have c8:=Lib.countB_le dp (by decide) c.size c aj;have c0:=Lib.splitB_all dp (by decide) 0 _ c rfl;unfold cB;rw[c0];omega
 have b2:∀x,x∈z->x.size<=c.size:=fun x V=>sJ (by rw[b0.out];exact V)
 rw[b0.out]at K I L b1 J;obtain⟨f,d,rfl⟩:∃f d,z=f::d:=by
  cases z with
  | nil=>simp at L
  | cons x d=>exact⟨x,d,rfl⟩
 have W:dB f.data.toList=some i:=I;have X:dK (dj.getD i []) (i==0) (d.map (·.data.toList))=q:=J;obtain⟨t,M⟩:=nmd ((f::d).length);have b3:d.length=t-1:=by have:=M.out;simp at this;omega
 obtain⟨a,N⟩:=nmd (w.alloc (.cells ((f::d).map Value.string).toArray 9));have Y:Below w.heap.size w a:=by rw[<-N.out];exact aD
 have g0:a.cell? ⟨w.heap.size,0,none⟩=some (.string f):=by rw[<-N.out];exact oy w 9 (f::d) 0 f rfl
 have HG:Hid (∀r x,d[r]?=some x->a.cell? ⟨w.heap.size,1+r,none⟩=some (.string x)):=fun r x B=>by rw[<-N.out,Nat.add_comm];exact oy w 9 (f::d) (r+1) x B
 have b4:=hid (h.later Y);have Z:=uS (b4.out.cmd U) f (by have:=b2 f List.mem_cons_self;omega);unfold tF at Z;rw[W]at Z;simp only[hv]at Z;have b5:=hid Y;have HP:=hid h;have HE:=hid U;have c1:=hid a9;rw[M.out]at L b1;have c9:(0:Int)<(t:Int):=by omega
 have c2:=yW w.heap.size t L (by omega);rw[M.out,N.out]at K;obtain⟨O,a0⟩:=nmd (a.alloc (.cells #[.string (ef i),.bool (i==0),.func (.func k) n o] 84));have D:=aB a (.cells #[.string (ef i),.bool (i==0),.func (.func k) n o] 84);have P:Below a.heap.size a (a.alloc (.cells #[.string (ef i),.bool (i==0),.func (.func k) n o] 84)):=aD;rw[a0.out]at D P;have a1:=hid P;have a2:=hid (b4.out.later P);obtain⟨a3,Ho⟩:∃a3:Nat,Hid ((if t=1 then 0 else 1)=a3):=⟨_,rfl⟩;have a4:(ef i).size<=5∧((i==0)=true->0<(ef i).size):=yx hi;have a5:=adp (ef i) (i==0) (.func (.func k) n o) w.heap.size a3 (t-1) d O.drew a4.1 a4.2 (by omega) (fun r x B=>by
  have h1:r<d.length:=by
   rcases bU r d.length with q|q
   ·exact q
   ·rw[List.getElem?_eq_none q]at B;cases B
  rw[<-Ho.out,aa (by omega)];have h2:=ag a1.out (HG.out r x B);exact h2)
 have b6:(ef i).data.toList=dj.getD i []:=rfl;rw[b6,b3,X]at a5;have a6:=hid a5;rw[Ho.out]at c2;have d0:=aG _ _ 0 _ _ _ D;have d1:=aG _ _ 1 _ _ _ D;have d2:=aG _ _ 2 _ _ _ D;have l:=hid (And.intro d0 (And.intro d1 d2));have d3:=hid W;have b7:=hid X;clear I b2 Y W h U a5 a4 P b3 b6 D hr J X a9
 cases q with
 | none =>
  clear hk
  go_enter func76,ntmps76
  go_wp2_with fail
  refine K.out.mono ?_;rintro E w1 ⟨rfl,V⟩;subst w1
  go_wp2_with fail
  rw[a0.out]
  go_region_held3 (fun g=>g.cell? ⟨a.heap.size,0,none⟩=some (.string (ef i))∧g.cell? ⟨a.heap.size,1,none⟩=some (.bool (i==0))∧g.cell? ⟨a.heap.size,2,none⟩=some (.func (.func k) n o)) (first|exact F|go_keep) (first
   | (go_at_call 136;(with_reducible refine a6.out.mono ?_);rintro E e ⟨v3,rfl,u,s⟩;have G:v3=.tuple #[.slice none 0 0,.bool false]:=u;subst G;have b:=dW s;have v:=hid b;have F:=And.intro (ag b l.out.1) (And.intro (ag b l.out.2.1) (ag b l.out.2.2));clear u s b))
  have a7:=hid (a2.out.later v.out);have a8:=hid (ao b5.out (ao a1.out v.out));have d4:e.cell? ⟨1,0,none⟩=some (.iface 318 (.pointer (some (A 0)))):=(HE.out.held.later a7.out.bel).var 0 (by decide)
  go_wp2_with fail
  go_quiet (fail)
  go_wp2_with fail
  go_ret2
  exact⟨_,rfl,_,_,rfl,⟨rfl,fun q=>by cases q⟩,NextO.of_below HP.out (aJ a8.out _) (by omega)⟩
 | some j =>
  rcases hk with⟨rfl,rfl,rfl,rfl⟩|⟨x,y,rfl,rfl,rfl,rfl⟩
  all_goals
   go_enter func76,ntmps76
   go_wp2_with fail
   refine K.out.mono ?_;rintro E w1 ⟨rfl,V⟩;subst w1
   go_wp2_with fail
   rw[a0.out]
  focus go_region_held3 (fun g=>g.cell? ⟨a.heap.size,0,none⟩=some (.string (ef i))∧g.cell? ⟨a.heap.size,1,none⟩=some (.bool (i==0))∧g.cell? ⟨a.heap.size,2,none⟩=some (.func (.func 36) #[az pb] #[])) (first|exact F|go_keep) (first
   | (go_at_call 136;(with_reducible refine a6.out.mono ?_);rintro E e ⟨v3,rfl,u,s⟩;obtain⟨p,G,H⟩:=u;subst G;have Q:=hid H;clear H;have b:=dW s;have v:=hid b;have F:=And.intro (ag b l.out.1) (And.intro (ag b l.out.2.1) (ag b l.out.2.2));clear s b))
  rotate_left
  focus go_region_held3 (fun g=>g.cell? ⟨a.heap.size,0,none⟩=some (.string (ef i))∧g.cell? ⟨a.heap.size,1,none⟩=some (.bool (i==0))∧g.cell? ⟨a.heap.size,2,none⟩=some (.func (.func 128) #[] #[az x,az y])) (first|exact F|go_keep) (first
   | (go_at_call 136;(with_reducible refine a6.out.mono ?_);rintro E e ⟨v3,rfl,u,s⟩;obtain⟨p,G,H⟩:=u;subst G;have Q:=hid H;clear H;have b:=dW s;have v:=hid b;have F:=And.intro (ag b l.out.1) (And.intro (ag b l.out.2.1) (ag b l.out.2.2));clear s b))
  all_goals
   have a7:=hid (a2.out.later v.out);have a8:=hid (ao b5.out (ao a1.out v.out));have c3:Hid (NumO e C p j):=⟨⟨_,Q.out⟩,fun R hg=>by
    have h1:=(Q.out.lt R hg).1;rcases bU (C R) 2000 with q|q
    ·have h2:=a2.out.top R q
     have h3:O.heap.size<=R:=h1;omega
    ·exact q,(qc b7.out).2⟩
   have c4:Hid (IsSl e p j):=IsSl.owned Q.out (by have:=(qc b7.out).1;rw[List.length_map]at this;have:=M.out;simp at this;unfold maxLen;omega);have c5:=hid (c1.out j e p rfl a7.out c3.out c4.out)
   go_wp2_with fail
   refine c5.out.mono ?_;rintro E w4 ⟨v4,rfl,hR⟩;obtain⟨s4,e4,c6,b8,b9⟩:=hR;subst c6;have HX:=hid (And.intro b8 (wt a8.out b9));clear b8 b9
   go_wp2_with fail
   go_ret2
   exact⟨_,rfl,_,_,rfl,HX.out⟩
theorem acU{f g:Fn}{a b c d:Value}(h:Value.func f #[] #[a,b]=Value.func g #[] #[c,d]):a=c∧b=d:=by
 injection h with _ _ h
 simpa using h
theorem aeo{a b c e f d:Value}(h:Value.agg #[a,b,c]=Value.agg #[e,f,d]):c=d:=by
 injection h with h
 simp at h;exact h.2.2
theorem aes(a:ByteArray)(d:EnvO w0 wc mb pb bb vs A)(h:PlO w0 wc w pb C st m)(n:a.size<=1000)(y:m<800000)(o:m+672<=m'):Calls prog 76 #[.map (some mb),.string a] w (cY (fZ w0 wc w pb C A (cM st ((cB a).map (·.data.toList))) m')):=by
 cases k:dB (((cB a).map (·.data.toList)).headD [])with
 | none=>exact acE a d h n (by omega) k
 | some i =>
  have j:=(fL k).1;obtain⟨z,p,q⟩:=d.cmd.ent i j
  by_cases r:i=0
  ·subst r
   rcases q with⟨-,rfl⟩|⟨B,-⟩|⟨B,-⟩
   ·exact sF a _ _ _ _ _ (.inl ⟨rfl,rfl,rfl,rfl⟩) (fun b c g _ l _ D=>ady g b l d.held D (show m<=m' by omega)) j d h n o k rfl p
   ·omega
   ·omega
  ·have key:∀e f,z=.func (.func 128) #[] #[az e,az f]->∀b c g,dK (dj.getD i []) (i==0) (((cB a).map (·.data.toList)).tail)=some b->PlO w0 wc c pb C st m->NumO c C g b->IsSl c g b->Calls prog 128 #[g,az e,az f] c (cY (fZ w0 wc c pb C A (cz st i b) m')):=by
    intro e f E b c g s l F _;have G:b.length=(dj.getD i []).length:=ab0 (by rw[show(i==0)=false by simp;omega]at s;exact s);obtain⟨M,t,u⟩:=(show EntO wc pb bb i (vs i)from d.cmd.ent i j).stay (w':=c) (fun N O H I=>l.box I H);rw[p]at t;have J:=aeo t;rw[<-J]at u;obtain⟨P,Q,v,K⟩:=abT ⟨by omega,j⟩ d l F G y o u;rw[E]at v;have x:=acU v;rw[x.1,x.2];exact K
   rcases q with⟨L,-⟩|⟨-,-,e,f,R,rfl,-⟩|⟨-,e,f,rfl,-⟩
   ·exact absurd L r
   all_goals exact sF a _ _ _ _ _ (.inr ⟨e,f,rfl,rfl,rfl,rfl⟩) (key e f rfl) j d h n o k rfl p
end
def se(w:World)(A:Nat->Addr):Prop:=∀c,c<9∧c≠6->w.cell? (A c)=some (.string (bB (fC (c+1))))
def kF(c:Nat):Prop:=c<=9∧c≠7
theorem aaP{c:Nat}(h:c=0∨c=1∨c=4):kF c:=by unfold kF;omega
theorem uP(a:List Int):kF (bT a):=by
 unfold kF bT
 repeat' split
 all_goals omega
theorem vC(zs:List Int)(V:PX)(i:Nat)(a b:Int):kF (opP zs V i a b).1:=by
 unfold kF opP
 split
 ·show eO zs.length V a b<=9∧eO zs.length V a b≠7
  unfold eO
  repeat' split
  all_goals omega
 ·show hP zs.length V a b<=9∧hP zs.length V a b≠7
  unfold hP
  repeat' split
  all_goals omega
 ·show cUp zs.length V a<=9∧cUp zs.length V a≠7
  unfold cUp
  repeat' split
  all_goals omega
 ·split<;>simp
 ·split<;>simp
 ·split<;>simp
 ·split<;>simp
 ·split<;>simp
 ·show kP zs.length V a b<=9∧kP zs.length V a b≠7
  unfold kP cC
  repeat' split
  all_goals omega
 ·show cUp zs.length V a<=9∧cUp zs.length V a≠7
  unfold cUp
  repeat' split
  all_goals omega
 ·show gi zs.length V a<=9∧gi zs.length V a≠7
  unfold gi
  repeat' split
  all_goals omega
 ·simp
theorem adM(zs:List Int)(V:PX)(i:Nat)(a b:Int):kF (ia zs V i a b).1.1:=by
 unfold kF ia
 split
 ·simp
 ·simp
 ·show(if _ then _ else _:Nat×Bs).1<=9∧(if _ then _ else _:Nat×Bs).1≠7
  split<;>simp
 ·show(if _ then _ else _:Nat×Bs).1<=9∧(if _ then _ else _:Nat×Bs).1≠7
  split<;>simp
 ·show(if _ then _ else _:Nat×Bs).1<=9∧(if _ then _ else _:Nat×Bs).1≠7
  split<;>simp
 ·simp
theorem ahs(st:PSt)(i:Nat)(a:List Int):kF (cz st i a).1.1:=by
 unfold cz
 split
 ·split
  ·exact aaP (.inl rfl)
  ·exact uP a
 ·split
  ·exact aaP (.inr (.inr rfl))
  ·split
   ·exact vC _ _ _ _ _
   ·exact adM _ _ _ _ _
theorem aeL(st:PSt)(a:List Bs):kF (cM st a).1.1:=by
 unfold cM
 split
 ·exact aaP (.inr (.inl rfl))
 ·split
  ·exact aaP (.inr (.inl rfl))
  ·exact ahs _ _ _
theorem wA(v:Value)(w:World):(Go.method 448 318 v "Error").run prog w=.ok (304,v) w:=by kernel_rfl
theorem aad(a:Addr)(s:ByteArray)(w:World)(h:w.cell? a=some (.string s)):Calls prog 304 #[.pointer (some a)] w fun e w'=>e=.returned (.string s)∧w'=w:=by
 go_enter func304,ntmps304
 go_wp2_with fail
 go_ret
 exact⟨rfl,rfl⟩
section
variable {w0 wc w w':World} {mb pb bb m m':Nat} {vs:Nat→Value} {C:Nat→Nat} {st:PSt} {A:Nat→Addr}
theorem aba(b:ByteArray)(o:EnvO w0 wc mb pb bb vs A)(p:se w0 A)(h:PlO w0 wc w pb C st m)(r:b.size<=1000)(s:m<800000)(t:m+672<=m'):Calls prog 18 #[.map (some mb),.string b] w fun e w'=>e=.returned (.string (bB (gu (cM st ((cB b).map (·.data.toList))).1)))∧NextO w0 wc w w' pb C (cM st ((cB b).map (·.data.toList))).2 m':=by
 have g:=hid (aes b o h r s t);have u:=hid p;have i:=aeL st ((cB b).map (·.data.toList));obtain⟨j,v⟩:=nmd (cM st ((cB b).map (·.data.toList)));rw[v.out]at g i ⊢;clear o p h;obtain⟨⟨a,G⟩,H⟩:=j
 cases a with
 | zero =>
  go_enter func18,ntmps18
  go_wp2_with fail
  refine g.mono ?_;rintro e k ⟨x,rfl,y,e,rfl,⟨d,f⟩,c⟩;have z:=f rfl;subst z;have l:e=.nilIface:=d;subst l;have n:=hid c;clear c f d
  go_wp2_with fail
  go_ret
  exact⟨rfl,n⟩
 | succ a =>
  have B:a<9∧a≠6:=by unfold kF at i;simp at i;omega
  go_enter func18,ntmps18
  go_wp2_with fail
  refine g.mono ?_;rintro e k ⟨x,rfl,y,e,rfl,⟨d,f⟩,c⟩;have l:e=.iface 318 (.pointer (some (A a))):=d;subst l;have q:k.cell? (A a)=some (.string (bB (fC (a+1)))):=by
   obtain⟨I,D,-,-⟩:=c;exact ag D.bel (u a B)
  have n:=hid c;have J:=wA;have E:=hid (aad (A a) _ k q);clear c f d q
  go_wp2_with fail
  refine E.mono ?_;rintro e F ⟨rfl,K⟩;subst F
  go_wp2_with fail
  go_ret
  exact⟨rfl,n⟩
end
end Go.Proofs.YtaehdgemkafinaaGreatDoor
