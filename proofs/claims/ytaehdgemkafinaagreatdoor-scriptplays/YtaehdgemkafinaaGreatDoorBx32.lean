/-
  On the way to SPlaysProof: XR XS XH XJ XK.
-/
import Derived.Test.YtaehdgemkafinaaGreatDoorBx29
import Derived.DeepKeys
set_option maxHeartbeats 8000000
set_option maxRecDepth 100000
namespace Go.Proofs.YtaehdgemkafinaaGreatDoor
open Go.RowKit
open Go.Proofs.Tryz
theorem Tryz.infoMEv:(prog.info? 77).map (fun i=>(i.zero,i.size,i.bytes))=some (some (.agg #[.int .i64 0,.int .i64 0,.int .i64 0]),3,24):=by kernel_rfl
theorem oU{w:World}{ops:Array Oper}{rest:List Oper}{o:Oper}{a:Act}{Q:Exit->Act->World->Prop}(k:o.guard=none)(s x:Operand)(l:o.op=.call { callee:=.builtin .append,args:=#[s,x],argTypes:=#[56,56] })(base n:Nat)(v:Value)(f:Addr)(c:Nat)(xs:List Value)(e:E3)(m:a.eval s=v)(p:a.eval x=.slice (some f) 1 c)(q:w.ownsRow base 77 3 v n xs)(r:∀j g,(e3L e)[j]?=some g->w.cell? (f.add j)=some g)(G:n<=1000000000000)(t:base<=w.heap.size)(h:∀b d w',w'.ownsRow base 77 3 (.slice b (n+1) d) (n+1) (xs++e3L e)->w.grownBy w' v.ownBlock->((Value.slice b (n+1) d).ownBlock=v.ownBlock∨(Value.slice b (n+1) d).ownBlock=some w.heap.size)->wpList prog ops Q rest (a.put o.dst (.slice b (n+1) d)) w'):wpList prog ops Q (o::rest) a w:=by
 obtain⟨u,y,z,A,B⟩:=info_parts Tryz.infoMEv;refine wpList_append_own_at w k s x 56 l base 77 u _ 3 24 underlying56 y z A B rfl (by decide) v n xs m q f 1 c (e3L e) p rfl r (vD e) (by unfold maxLen;omega) (by omega) t ?_;intro C w' i D _ E;obtain⟨b,d,rfl⟩:∃b d,C=.slice b (n+1) d:=by
  rcases i.2 with⟨e,F⟩|⟨H,cap,I,e,-⟩
  ·exact⟨none,0,by rw[e,F]⟩
  ·exact⟨_,_,e⟩
 exact h b d w' i D E
theorem abL{w:World}{base size n:Nat}{t:TypeId}{v:Value}{xs:List Value}(h:w.ownsRow base t size v n xs):∃b c,v=.slice b n c:=by
 rcases h.2 with⟨a,d⟩|⟨e,f,g,a,-⟩
 ·exact⟨none,0,by rw[a,d]⟩
 ·exact⟨_,_,a⟩
section
variable {b0:Nat} {w w':World} {C C':Nat→Nat} {Y:YB} {K:RB} {aw:Option Addr} {cap n i k:Nat} {g:Nat→Bool} {E:Nat→Nat×St} {F:List E3}
theorem sU(h:NT b0 w C Y K aw cap n i g E F)(hi:i<n)(Z:b0<=w.heap.size):Calls prog 91 #[.pointer (some ⟨Y.xb,0,none⟩),.int .i64 (i:Int)] w fun e w'=>e=.returned (.tuple #[])∧NTo b0 w w' C Y K aw cap n i (el g (fun d=>(E d).2.ph) 6) E (cR F i g (fun d=>(E d).2.ph) 6):=by
 obtain⟨c1,-,-⟩:=h.cells;have cn:=h.ns;have J:=hid h;obtain⟨a,HP⟩:∃a:Nat->Nat,Hid ((fun d=>(E d).2.ph)=a):=⟨_,rfl⟩;rw[HP.out];clear h
 go_enter func91,ntmps91
 go_wp2_with fail
 go_loopw [5] (fun d wr=>∃k:Nat,k<=6∧d=iV (k:Int)∧NTo b0 w wr C Y K aw cap n i (el g a k) E (cR F i g a k)) (fun d _=>6-(intOf d).toNat)
 case atStart=>exact⟨0,Nat.zero_le _,rfl,C,Y.ev,by rw[aa1];exact J,Kept.refl _ _,fun _ _=>rfl⟩
 case round =>
  obtain⟨k,hk,rfl,z,A,f,N,hC⟩:=hrel
  rename_i wr
  have o:=hid f;have O:=hid N;have B:=hid hC;have d0:=f.nd;have b1:Hid (b0<=wr.heap.size):=bc Z N.size;clear N hC
  by_cases P:k<6
  ·obtain⟨cs,e1⟩:=f.js
   have e0:=f.st;have e2:=f.ph k P;have d3:=f.dd;have g1:=f.drow.at_ P;have g2:=f.drow.fz k;rw[adr]at g1;have a4:Hid ((E k).2.ph=a k):=by rw[<-HP.out];rfl
   rw[a4.out]at e2;obtain⟨u,D⟩:=nmd (aT (a k));have Q:=hid (fun w=>iw (a k) u w D);obtain⟨v,L⟩:=nmd (g k);rw[L.out]at g1;clear f
   by_cases x:v=true∨u=false
   ·have p:Hid (NTo b0 w wr C Y K aw cap n i (el g a (k+1)) E (cR F i g a (k+1))):=by
     have a5:el g a (k+1)=el g a k:=zt (by rw[L.out,D.out];exact x);have R:cR F i g a (k+1)=cR F i g a k:=by
      rw[cR,aa];rintro⟨q,j,-⟩;rw[L.out]at q;rw[D.out]at j;rcases x with e|e
      ·rw[q]at e;cases e
      ·rw[j]at e;cases e
     show NTo _ _ _ _ _ _ _ _ _ _ _ _ _;rw[a5,R];exact⟨z,A,o,O,B⟩
    clear o
    go_wp2_with fail
    refine(Q _).mono ?_;rintro e w1 ⟨rfl,rfl⟩;rcases x with rfl|rfl
    ·go_wp2_with fail
     go_roundw
     case rel=>exact⟨k+1,by omega,by go_num,p⟩
     case measure=>simp[intOf];omega
    ·cases v
     ·go_wp2_with fail
      go_roundw
      case rel=>exact⟨k+1,by omega,by go_num,p⟩
      case measure=>simp[intOf];omega
     ·go_wp2_with fail
      go_roundw
      case rel=>exact⟨k+1,by omega,by go_num,p⟩
      case measure=>simp[intOf];omega
   ·obtain rfl:v=false:=by cases v;rfl;exact(x (.inl rfl)).elim
    obtain rfl:u=true:=by cases u;exact(x (.inr rfl)).elim;rfl
    clear x;obtain⟨c,S⟩:=nmd (wr.setCell ⟨K.dn,k,none⟩ (.bool true));have r:Hid (NT b0 c z { Y with ev:=A } K aw cap n i (el g a (k+1)) E (cR F i g a k)):=by
     rw[<-S.out];show NT _ _ _ _ _ _ _ _ _ _ _ _;rw[aaS D.out];exact o.mark P
    have T:Hid (Kept (InN C i) w c):=by
     rw[<-S.out];exact O.setCell (show InN C i K.dn from .inr (.inr (by have e:=o.c9;rw[<-B.out K.dn (J.lt _ (by have:=J.c9;have:=J.i7;omega))];exact e))) _
    have hW:=S.out;obtain⟨-,U,f4⟩:=r.cells;obtain⟨G,H,V⟩:=abL r.evs;simp only at V U;rw[V]at U;have HV:=hid V;obtain⟨b,l⟩:=nmd ((cR F i g a k).length);have a6:Hid (b<=500):=by rw[<-l.out];exact r.le
    rw[l.out]at U
    by_cases a0:b<500
    ·have a7:Hid (cR F i g a (k+1)=cR F i g a k++[⟨i,k,a k⟩]):=by
      show cR _ _ _ _ _=_;rw[cR,af ⟨L,D,by rw[l.out];exact a0⟩]
     obtain⟨m,W⟩:=nmd (c.alloc (.cells #[iV (i:Int),iV (k:Int),iV ((a k:Nat):Int)] 77));have b2:=W.out;have X:Hid (bW c m):=by rw[<-W.out];exact aD
     have a8:Hid (∀a1 a2,(e3L ⟨i,k,a k⟩)[a1]?=some a2->m.cell? ((⟨c.heap.size,0,none⟩:Addr).add a1)=some a2):=by rw[<-W.out];exact gE c 77 (e3L ⟨i,k,a k⟩)
     have y:=hid (r.later X);have HO:Hid (m.ownsRow b0 77 3 (.slice G b H) b (bu (cR F i g a k))):=by
      have:=y.evs;simp only at this;rw[HV.out,l.out]at this;exact this
     have a9:b0<=m.heap.size:=bc Z (bc T.size X.size);have p:Hid (∀s t w',w'.ownsRow b0 77 3 (.slice s (b+1) t) (b+1) (bu (cR F i g a k)++e3L ⟨i,k,a k⟩)->m.grownBy w' (Value.slice G b H).ownBlock->((Value.slice s (b+1) t).ownBlock=(Value.slice G b H).ownBlock∨(Value.slice s (b+1) t).ownBlock=some m.heap.size)->w'.cell? ⟨Y.xb,4,none⟩=some (.slice G b H)∧w'.frozen? ⟨Y.xb,4,none⟩=false∧NTo b0 w (w'.setCell ⟨Y.xb,4,none⟩ (.slice s (b+1) t)) C Y K aw cap n i (el g a (k+1)) E (cR F i g a (k+1))):=by
      intro s t w' q j M;have I:=HV.out;rw[l.out]at I;have q1:=(bZ j).row y.row (fun e=>by
       have h9:=y.ce _ (by simp only;rw[I];exact e);have h8:=y.cx;exact absurd (h9.symm.trans h8) (by decide))
      refine⟨by rw[ai q1];simp[rwC,I],dN q1,?_⟩;refine NTo.step (C1:=z) (v1:=A) (T.trans (Kept.of_below X)) B ?_;rw[a7.out];exact y.push (by rw[l.out];exact q) (by simp only;rw[I];exact j) (by simp only;rw[I];exact M) (by rw[l.out];exact a0)
     clear o r y
     go_wp2_with fail
     refine(Q _).mono ?_;rintro e w1 ⟨rfl,rfl⟩
     go_wp2_with (at_builtin;refine oU rfl _ _ rfl b0 b (.slice G b H) ⟨c.heap.size,0,none⟩ 1 _ ⟨i,k,a k⟩ rfl rfl HO a8 (by omega) a9 ?_;intro s t w' q j M;obtain⟨y2,z2,a3⟩:=p.out s t w' q j M;have HZ:=hid a3;clear q j M a3)
     go_roundw
     case rel=>exact⟨k+1,by omega,by go_num,HZ⟩
     case measure=>simp[intOf];omega
    ·have p:Hid (NTo b0 w c C Y K aw cap n i (el g a (k+1)) E (cR F i g a (k+1))):=by
      have R:cR F i g a (k+1)=cR F i g a k:=by rw[cR,aa (by rw[l.out];omega)]
      show NTo _ _ _ _ _ _ _ _ _ _ _ _ _;rw[R];exact⟨z,A,r,T,B⟩
     obtain rfl:b=500:=by have:=a6.out;omega
     clear o r
     go_wp2_with fail
     refine(Q _).mono ?_;rintro e w1 ⟨rfl,rfl⟩
     go_wp2_with fail
     go_roundw
     case rel=>exact⟨k+1,by omega,by go_num,p⟩
     case measure=>simp[intOf];omega
  ·obtain rfl:k=6:=by omega
   clear f
   go_wp2_with fail
   go_end0
   exact⟨rfl,z,A,o,O,B⟩
end
theorem sW{a b:Nat}(h:jv a b)(c:aT a=true):b=a:=by
 unfold jv at h;unfold aT at c;simp at c;omega
theorem agc{n m:Nat}{N:PN}{f:F9}(h:NI n N m)(b:N.l≠-2)(a:FI n f)(e:m<4000000000)(g:(oHN N f).c=6):(oHN N f).l=-2:=by
 have i:=h.up b;have c:f.d.toNat<6:=by have:=a.ok.2.2.1;omega
 have j:f.a.toNat<=1048576:=by have:=a.ok.2.2.2.2.1;omega
 have k:f.ph.toNat<=5:=by have:=a.ok.2.2.2.2.2.1;omega
 have l:=tg (stN N f.d.toNat) (N.R f.d.toNat) f.k.toNat f.a.toNat f.ph.toNat (h.gd _ c) j k;have o:Well N.B false N.l m:=⟨h.gd,h.nm,fun _=>b⟩;have p:ig (au N.B.data.toList) false N.B N.l f.d.toNat (gHN N f).st.ph (gHN N f).st.pr (gHN N f).st.at_=oHN N f:=by rw[<-i];rfl
 obtain⟨-,-,q⟩:=sE (by have:=h.sz;omega) o e c l.1 h.l0 h.l1 p;rcases q with⟨d,-⟩|⟨-,-,r⟩
 ·rw[g]at d;cases d
 ·exact r
section
variable {w0 w w1 w':World} {C C':Nat→Nat} {K:RB} {Y:YB} {aw:Option Addr} {i n cap m m':Nat} {zs:List Int} {N:PN} {V V':PX}
theorem RW.both{S:Nat->Prop}{N:PN}{K:RB}{ev:Value}{E:List E3}(h:RW w0 w C Y aw cap zs V m)(k:Kept S w w')(J:i<zs.length)(q:∀x,S x->C x / 100=i∨C x=1001∨C x=1006)(c:∀x,x<w.heap.size->C' x=C x)(s:∀x,w.heap.size<=x->C' x<2000->x<w'.heap.size)(t:w'.heap[Y.xb]?=some (.cells (rwC { Y with ev:=ev } aw zs.length cap).toArray 58 (0,0)))(j:w'.ownsRow w0.heap.size 77 3 ev E.length (bu E))(u:∀g,ev.ownBlock=some g->C' g=1006)(v:RN w' C' K i zs.length cap aw N)(y:K.nd=(Y.K i).nd)(L:m<=m')(z:XI zs { aA V i N with evs:=E } m'):RW w0 w' C' { Y with ev:=ev,K:=fun e=>if e=i then K else Y.K e } aw cap zs { aA V i N with evs:=E } m':=by
 have M:=h.n7.2;have O:=h.bel.size;have A:∀x,S x->w0.heap.size<=x:=fun x d=>h.low x (by have:=q x d;omega)
 have l:∀x,C x / 100≠i->C x≠1001->C x≠1006->¬S x:=fun x P Q R b=>by have:=q x b;omega
 obtain⟨B,D,F,T⟩:=h.brk;have U:=h.cx;have W:=h.cn;have o:∀{x p:Nat},C x=p->p<2000->C' x=p:=fun {x p} e X=>(c x (h.lt x (by omega))).trans e
 refine⟨k.below h.bel.size A h.bel,t,h.ws,fun e j=>?_,fun e j=>?_,⟨B,aV D k (fun g a=>l g (by have:=h.cb g a;omega) (by have:=h.cb g a;omega) (by have:=h.cb g a;omega)),F,by omega⟩,aV h.fly k (fun g a=>l g (by have:=h.cf g a;omega) (by have:=h.cf g a;omega) (by have:=h.cf g a;omega)),j,o h.cx (by omega),o h.cn (by omega),fun g a=>o (h.cb g a) (by omega),fun g a=>o (h.cf g a) (by omega),u,fun x d=>?_,fun x d=>?_,z⟩
 ·have:=aI (h.ns e j) k (l Y.nb (by omega) (by omega) (by omega))
  rw[this]
  by_cases g:e=i
  ·subst g;simp[y]
  ·simp[g]
 ·by_cases g:e=i
  ·subst g
   simpa [aA]using v
  ·have G:=(h.nds e j).col (C':=C') c
   have:=G.kept (S:=fun x=>S x∧x<w.heap.size) (w':=w') ⟨k.os,k.tape,k.output,k.size,fun H r I=>k.block H r (fun b=>I ⟨b,r⟩)⟩ (fun x d b=>l x (by rw[<-c x b.2];omega) (by rw[<-c x b.2];omega) (by rw[<-c x b.2];omega) b.1)
   simpa [aA,g]using this
 ·rcases bU x w.heap.size with f|f
  ·exact bm f k.size
  ·exact s x f d
 ·rcases bU x w.heap.size with f|f
  ·exact h.low x (by rw[<-c x f];exact d)
  ·omega
theorem RN.heard{S:Nat->Prop}{B:ByteArray}{l:Int}{ov:Bool}(h:RN w C K i n cap aw N)(o:upN N=true)(v:l≠-2)(W:i<7)(k:Kept S w w')(y:∀x,S x->C x=1001∨C x=1006∨C x=100*i+3∨C x=100*i+4∨C x=100*i+5∨C x=100*i+7∨C x=100*i+9)(a:∀x,x<w.heap.size->C' x=C x)(r:RK w' K.m K.gn K.gs K.r (au B.data.toList) ov B l)(b:VR w' K.dn (fun d=>aT (au B.data.toList d).2.ph)):RN w' C' K i n cap aw { N with B:=B,l:=l,over:=ov }:=by
 have z:=h.cn;have A:=h.cr;have D:=h.cl;have E:=h.cd;obtain⟨F,G,H,I,J⟩:=h.cu o;obtain⟨L,p⟩:=h.up o;obtain⟨M,O,P,Q⟩:=L.lts;have c:∀x,(C x≠1001∧C x≠1006∧C x≠100*i+3∧C x≠100*i+4∧C x≠100*i+5∧C x≠100*i+7∧C x≠100*i+9)->¬S x:=fun x X R=>by have:=y x R;omega
 have T:upN { N with B:=B,l:=l,over:=ov }=upN N:=by rw[o];unfold upN;simpa using v
 have U:kB K { N with B:=B,l:=l,over:=ov }=kB K N:=by unfold kB rsV;rw[T]
 refine⟨by rw[U];exact k.row h.row (c _ (by omega)),r.rp,fun _=>⟨r,p.kept k (c _ (by omega)) (c _ (by omega))⟩,k.row h.lrow (c _ (by omega)),b,fun d b x e=>?_,(a _ (ah h.row)).trans z,(a _ Q).trans A,(a _ (ah h.lrow)).trans D,(a _ (ah h.drow)).trans E,fun _=>⟨(a _ (ah p.row)).trans F,(a _ M).trans G,(a _ O).trans H,(a _ P).trans I,(a _ (ah p.refs)).trans J⟩,fun d b x e=>?_⟩
 ·obtain⟨s,t,g⟩:=h.lds d b x e
  obtain⟨u,q⟩:=h.ce d b x e;exact⟨s,t,g.kept k (c _ (by omega)) (fun f j=>c f (by have:=q f j;omega))⟩
 ·obtain⟨s,t,g⟩:=h.lds d b x e
  obtain⟨u,q⟩:=h.ce d b x e;exact⟨(a _ (ah g.row)).trans u,fun f j=>(a _ ((g.own.lt f j).2)).trans (q f j)⟩
theorem RW.nt{E:Nat->Nat×St}{ov:Bool}{B:ByteArray}{l:Int}(h:RW w0 w C Y aw cap zs V m)(p:i<zs.length)(g:upN (V.nd i)=true)(k:Kept (In4 (Y.K i).m (Y.K i).gn (Y.K i).gs (Y.K i).r) w w')(q:RK w' (Y.K i).m (Y.K i).gn (Y.K i).gs (Y.K i).r E ov B l):NT w0.heap.size w' C Y (Y.K i) aw cap zs.length i (fun d=>aT (stN (V.nd i) d).ph) E V.evs:=by
 have I:=h.n7.2;have a:=h.nds i p;have r:=a.cn;have J:=a.cr;have L:=a.cl;have s:=a.cd;have t:=h.cx;have u:=h.cn;obtain⟨v,x,M,y,O⟩:=a.cu g;obtain⟨-,z⟩:=a.up g;obtain⟨j,-,-,A⟩:=a.cells;unfold rsV at j;rw[g,af rfl]at j;obtain⟨-,D,-⟩:=z.cells;obtain⟨P,F,-,-,G,-⟩:=q.cells;have c:∀b,C b≠100*i+3->C b≠100*i+4->C b≠100*i+5->C b≠100*i+7->¬In4 (Y.K i).m (Y.K i).gn (Y.K i).gs (Y.K i).r b:=fun b Q R S T o=>by
  rcases o with rfl|rfl|rfl|rfl<;>omega
 exact⟨k.row h.row (c _ (by omega) (by omega) (by omega) (by omega)),aI (h.ns i p) k (c Y.nb (by omega) (by omega) (by omega) (by omega)),aI j k (c (Y.K i).nd (by omega) (by omega) (by omega) (by omega)),aI A k (c (Y.K i).nd (by omega) (by omega) (by omega) (by omega)),aI D k (c (Y.K i).t (by omega) (by omega) (by omega) (by omega)),⟨F,G⟩,fun d H=>(q.st H).1,k.row a.drow (c _ (by omega) (by omega) (by omega) (by omega)),aV h.evs k (fun e f=>c e (by have:=h.ce e f;omega) (by have:=h.ce e f;omega) (by have:=h.ce e f;omega) (by have:=h.ce e f;omega)),h.inv.ev,by omega,t,u,r,v,x,y,s,h.ce,fun b o=>bm (h.lt b o) k.size⟩
def afv(w0 w w':World)(C:Nat->Nat)(Y:YB)(aw:Option Addr)(cap:Nat)(zs:List Int)(V':PX)(m':Nat)(v:Value)(L:List F9):Prop:=
 ∃C' Y',RW w0 w' C' Y' aw cap zs V' m'∧eY Y'=eY Y∧Kept (di C) w w'∧(∀x,x<w.heap.size->C' x=C x)∧FrF w' C' w.heap.size v L
theorem RW.heardOut{B:ByteArray}{l:Int}{ov:Bool}{E:List E3}{o:Nat->Bool}(h:RW w0 w C Y aw cap zs V m)(p:i<zs.length)(q:upN (V.nd i)=true)(v:l≠-2)(r:Kept (In4 (Y.K i).m (Y.K i).gn (Y.K i).gs (Y.K i).r) w w1)(y:RK w1 (Y.K i).m (Y.K i).gn (Y.K i).gs (Y.K i).r (au B.data.toList) ov B l)(z:NTo w0.heap.size w1 w' C Y (Y.K i) aw cap zs.length i o (au B.data.toList) E)(c:∀d,d<6->o d=aT (au B.data.toList d).2.ph)(A:m<=m')(D:XI zs { aA V i { V.nd i with B:=B,l:=l,over:=ov }with evs:=E } m'):∃C' s,RW w0 w' C' s aw cap zs { aA V i { V.nd i with B:=B,l:=l,over:=ov }with evs:=E } m'∧eY s=eY Y∧Kept (di C) w w'∧(∀x,x<w1.heap.size->C' x=C x)∧Kept (di C) w1 w':=by
 have R:=h.n7.2;obtain⟨C',F,f,j,t⟩:=z;have e:=h.nds i p;have S:=e.cn;have G:=e.cr;have T:=e.cl;have U:=e.cd;obtain⟨W,H,I,J,X⟩:=e.cu q;have Z:=r.size;have u:∀x,x<w.heap.size->C' x=C x:=fun x a=>t x (by omega)
 have L:∀x,In4 (Y.K i).m (Y.K i).gn (Y.K i).gs (Y.K i).r x->C x=100*i+3∨C x=100*i+4∨C x=100*i+5∨C x=100*i+7:=fun x a=>by
  rcases a with rfl|rfl|rfl|rfl<;>omega
 have g:∀x,(C x=100*i+3∨C x=100*i+4∨C x=100*i+5∨C x=100*i+7)->¬InN C i x:=fun x a0 a=>by
  rcases a with b|b|b<;>omega
 have k:Kept (fun x=>C x=1001∨C x=1006∨C x=100*i+3∨C x=100*i+4∨C x=100*i+5∨C x=100*i+7∨C x=100*i+9) w w' :=
  (r.mono (fun x a=>by have:=L x a;omega)).trans (j.mono (fun x a=>by rcases a with b|b|b<;>omega))
 have M:=y.kept j (g _ (.inl H)) (g _ (.inr (.inl I))) (g _ (.inr (.inr (.inl J)))) (g _ (.inr (.inr (.inr G))));have O:VR w' (Y.K i).dn (fun d=>aT (au B.data.toList d).2.ph):=by
  have:=f.drow;unfold VR at this ⊢;rw[this];simp only[c 0 (by omega),c 1 (by omega),c 2 (by omega),c 3 (by omega),c 4 (by omega),c 5 (by omega)]
 have P:=e.heard (C':=C') q v (by omega) k (fun x a=>a) u M O;refine⟨C',_,h.both (ev:=F) (E:=E) k p (fun x a=>by omega) u (fun x a Q=>f.lt x Q) f.row f.evs f.ce P rfl A D,kx rfl,k.mono (fun x a=>by show C x<2000;omega),t,j.mono (fun x a=>by show C x<2000;rcases a with b|b|b<;>omega)⟩
end
theorem ahQ{w:World}{b:Nat}{F:F9}(h:w.heap[b]?=some (.cells (f9L F).toArray 125 (0,0))):IsFr w (.slice (some ⟨b,0,none⟩) 1 1) [F]:=by
 refine⟨_,1,rfl,fun a c=>⟨b,0,rfl,fun e f=>?_⟩⟩;have d:a=0:=by simp only[bq,List.length_nil]at c;omega
 subst d;rw[ai h];simp only[Nat.zero_mul,Nat.zero_add,List.getElem_cons_zero,List.getElem?_toArray]
theorem yX{α:Type}(L:List α)(k:Nat)(a:k<L.length):L.take (k+1)++[L[k]'a]++L.drop (k+1)=L.take k++(L[k]'a)::L.drop k:=by
 rw[List.take_succ_eq_append_getElem a,List.drop_eq_getElem_cons a];simp only[List.append_assoc,List.cons_append,List.nil_append]
section
variable {w0 w w':World} {C C':Nat→Nat} {Y:YB} {aw:Option Addr} {cap m m':Nat} {zs:List Int} {V V':PX}
theorem acf(s:Int)(h:RW w0 w C Y aw cap zs V m)(d:¬(0<=s∧s<V.fly.length))(i:m<=100000000):Calls prog 29 #[.pointer (some ⟨Y.xb,0,none⟩),.int .i64 s] w fun e w'=>e=.returned (.int .i64 4)∧w'=w:=by
 obtain⟨j,k,b⟩:=h.flyForm;have c:=(h.cells).2.2.2.1;rw[b]at c;have f:V.fly.length<=1000000000000:=by have:=h.inv.fl;omega
 obtain⟨a,g⟩:=nmd (V.fly.length);rw[g.out]at c d f;clear h b
 by_cases l:s<0
 ·go_enter func29,ntmps29
  go_wp2_with fail
  go_ret
  exact⟨rfl,rfl⟩
 ·have n:(a:Int)<=s:=by omega
  go_enter func29,ntmps29
  go_wp2_with fail
  go_ret
  exact⟨rfl,rfl⟩
theorem abM(k:Nat)(F:F9)(h:RW w0 w C Y aw cap zs V m)(v:k<V.fly.length)(K:V.fly[k]'v=F)(hm:m<=100000000):Calls prog 29 #[.pointer (some ⟨Y.xb,0,none⟩),.int .i64 (k:Int)] w fun e w'=>e=.returned (.int .i64 0)∧ROut w0 w w' C Y aw cap zs (ik V k F) (m+1):=by
 obtain⟨b,c,B,L,b6,D,b7,b8,b9,a3⟩:∃b c,∃B:Array Value,Y.fv=.slice (some ⟨b,0,none⟩) V.fly.length c∧w0.heap.size<=b∧w.heap[b]?=some (.cells B 125 (0,0))∧V.fly.length<=c∧c<=maxLen∧B.size=c*9∧B.toList.take (V.fly.length*9)=am V.fly:=by
  rcases h.fly.2 with⟨-,h0⟩|h1
  ·omega
  ·exact h1
 have U:=hid (IsFr.owned h.fly);rw[L]at U;have a4:∀d,d<9->w.cell? ⟨b,k*9+d,none⟩=(f9L F)[d]?:=fun d t=>by
  rw[<-K,ai D,<-gJ V.fly k d v t,<-a3,List.getElem?_take_of_lt (by omega),Array.getElem?_toList]
 have c0:Hid (F∈V.fly):=by rw[<-K];exact List.getElem_mem _
 have M:Hid (V.fly.take (k+1)++[F]++V.fly.drop (k+1)=V.fly.take k++F::V.fly.drop k):=by rw[<-K];exact yX _ _ v
 obtain⟨f,g,i,j,l,n,o,p,q⟩:=F;have N:=hid h;obtain⟨s,hn⟩:=nmd (V.fly.length);have c1:V.fly.length<=100000000000:=by have:=h.inv.fl;omega
 have O:=(h.cells).2.2.2.1;rw[L]at O;have a5:=hid (ye (c:=c) (k:=k+1) U v);obtain⟨E,W⟩:∃E,E=if c=k+1 then 0 else(k+1)*9:=⟨_,rfl⟩
 have X:=hid (xq (c:=c-(k+1)) (o2:=E) (k:=k+1) U v (fun hx=>by rw[W,aa (by omega)];omega));have d5:(if c=k+1 then some (⟨b,0,none⟩:Addr)else some ⟨b,(k+1)*9,none⟩)=some ⟨b,E,none⟩:=by rw[W];split<;>rfl
 have Z:(V.fly.take (k+1)).length=k+1:=by rw[bI];omega
 have P:(V.fly.drop (k+1)).length=V.fly.length-(k+1):=by rw[List.length_drop]
 obtain⟨G,c2⟩:=nmd (V.fly.take (k+1));obtain⟨Q,c3⟩:=nmd (V.fly.drop (k+1));rw[c2.out]at a5 M Z;rw[c3.out]at X M P;rw[hn.out]at O v c1 b7 P X;have d6:IntKind.i64.wrap ((k:Int)+1)=(k:Int)+1:=by rw[IntKind.wrap_i64];omega
 have d7:(0:Int)<=(k:Int)+1:=by omega
 have d8:(k:Int)+1<=(s:Int):=by omega
 have d9:(k:Int)+1<=(c:Int):=by omega
 have R:((k:Int)+1).toNat=k+1:=by omega
 have e0:=ah h.row;have a0:=hid Z;have a1:=hid P;have c4:Hid (∀a,w.grownBy a none->a.cell? ⟨Y.xb,3,none⟩=some (.slice (some ⟨b,0,none⟩) s c)∧bW w a∧∀d,d<9->a.cell? ⟨b,k*9+d,none⟩=(f9L ⟨f,g,i,j,l,n,o,p,q⟩)[d]?):=by
  intro a x;have r:bW w a:=Below.grown aF x aj (fun d t=>by cases t);refine⟨ag r O,r,fun d t=>?_⟩;have H:=a4 d t;have hr:a.heap[b]?=some (.cells B 125 (0,0)):=(r.block _ (ah D)).trans D;rw[ai D]at H;rw[ai hr,H]
 have HV:=hid L;have HM:=hid hm;clear h L b6 D b8 b9 a3 a4 K W Z P hm;have a6:Hid (∀(a2:Value) (S y:World) (H:Nat) (z:List Value),S.ownsRow w.heap.size 125 9 a2 H z->bW w S->S.grownBy y a2.ownBlock->y.cell? ⟨Y.xb,3,none⟩=some (.slice (some ⟨b,0,none⟩) s c)∧y.frozen? ⟨Y.xb,3,none⟩=false∧bW w y):=by
  intro a2 S y H z A r x;have R:bW w y:=Below.grown r x r.size (fun d t=>(A.lt d t).1);exact⟨ag R O,dN ((N.later R).row),R⟩
 have c5:Hid (∀(T:Value) (u:World),u.ownsRow w.heap.size 125 9 T (k+1+1+(s-(k+1))) (am G++am [⟨f,g,i,j,l,n,o,p,q⟩]++am Q)->bW w u->ROut w0 w (u.setCell ⟨Y.xb,3,none⟩ T) C Y aw cap zs (ik V k ⟨f,g,i,j,l,n,o,p,q⟩) (m+1)):=by
  intro T u A r;have c6:(V.fly.take k++⟨f,g,i,j,l,n,o,p,q⟩::V.fly.drop k).length=k+1+1+(s-(k+1)):=by rw[<-M.out,aR,aR,a0.out,a1.out];rfl
  refine N.framed (F:=V.fly.take k++⟨f,g,i,j,l,n,o,p,q⟩::V.fly.drop k) (S:=fun _=>False) (Kept.of_below r) (fun _ c7=>c7.elim) ?_ ?_ (aP _) (N.inv.twice c0)
  ·rw[c6,<-M.out,cE,cE]
   exact od A N.bel.size
  ·cases c8:T.ownBlock with
   | none=>exact .inl rfl
   | some g4=>exact .inr (.inr ⟨g4,rfl,(A.lt g4 c8).1⟩)
 have c9:Hid (∀(v3:Value) (a:World) (z:List Value),a.ownsRow w.heap.size 125 9 v3 (k+1) z->bW w a->(a.alloc (.cells #[iV f,iV g,iV i,iV j,iV l,.bool n,iV o,iV p,iV q] 125)).ownsRow w.heap.size 125 9 v3 (k+1) z∧bW w (a.alloc (.cells #[iV f,iV g,iV i,iV j,iV l,.bool n,iV o,iV p,iV q] 125))∧IsFr (a.alloc (.cells #[iV f,iV g,iV i,iV j,iV l,.bool n,iV o,iV p,iV q] 125)) (.slice (some ⟨a.heap.size,0,none⟩) 1 1) [⟨f,g,i,j,l,n,o,p,q⟩]):=by
  intro v3 a z A r;exact⟨aV A (Kept.of_below (S:=fun _=>False) (qP a f g i j l n o p q)) (fun _ _ e=>e),r.alloc r.size _,ahQ (aB a _)⟩
 go_enter func29,ntmps29
 go_wp2_with (first
  | (at_builtin;refine dQ rfl _ _ rfl w.heap.size 0 (.slice none 0 0) (.slice (some ⟨b,0,none⟩) (k+1) c) [] G rfl rfl (World.ownsRow_nil _ _ _ _) a5 (by rw[a0.out];omega) aj ?_;rw[a0.out,Nat.zero_add,List.nil_append];intro d0 d1 a a7 x _;obtain⟨e1,a8,a9⟩:=c4.out a x;obtain⟨y0,y1,y2,y3,y4,y5,y6,y7,y8⟩:=mH (o:=k*9) a9;simp only at y0 y1 y2 y3 y4 y5 y6 y7 y8;have I:=hid (c9 _ a _ a7 a8);clear a7 x a8 a9)
  | (at_builtin;refine dQ rfl _ _ rfl w.heap.size (k+1) (.slice d0 (k+1) d1) (.slice (some ⟨a.heap.size,0,none⟩) 1 1) (am G) [⟨f,g,i,j,l,n,o,p,q⟩] rfl rfl I.1 I.2.2 (by rw[List.length_singleton];omega) I.2.1.size ?_;rw[List.length_singleton];intro d2 d3 u b0 b1 _;obtain⟨e2,-,b2⟩:=a6.out _ _ u _ _ I.1 I.2.1 b1;have J:=hid (And.intro b0 b2);clear b0 b1 b2)
  | (at_builtin;refine dQ rfl _ _ rfl w.heap.size (k+1+1) (.slice d2 (k+1+1) d3) (.slice (some ⟨b,E,none⟩) (s-(k+1)) (c-(k+1))) _ Q rfl rfl J.1 (X.later J.2) (by rw[a1.out];omega) J.2.size ?_;rw[a1.out];intro e3 e4 w5 b3 b4 _;obtain⟨e5,e6,b5⟩:=a6.out _ u w5 _ _ J.1 J.2 b4;have d4:=hid (c5 _ w5 b3 b5);clear b3 b4 b5))
 go_ret
 exact⟨rfl,d4⟩
end
theorem ky:∀(L:List (Nat×Nat)) (i j:Nat) (h:i<L.length),j<2->(cA L)[i*2+j]?=(gM (L[i]'h))[j]?
 | [],i,_,h,_=>absurd h (Nat.not_lt_zero _)
 | x::L,0,j,_,a=>by
  show(gM x++cA L)[0*2+j]?=_;rw[Nat.zero_mul,Nat.zero_add,List.getElem?_append_left (by show j<2;exact a)];rfl
 | x::L,i+1,j,h,a=>by
  show(gM x++cA L)[(i+1)*2+j]?=_;rw[List.getElem?_append_right (by show 2<=_;omega),show(i+1)*2+j-(gM x).length=i*2+j by show _-2=_;omega];exact ky L i j (by simpa using h) a
theorem sL:prog.plainKey 3=true:=by kernel_rfl
theorem acK:prog.underlying 131=some (.array 2 3):=by kernel_rfl
theorem aaj:prog.cellsOf 3=1:=by kernel_rfl
theorem af0:prog.underlying 3=some (.int .i64):=by kernel_rfl
theorem ae5:(prog.info? 3).isSome=true:=by kernel_rfl
theorem tq(x y a b:Int)(w:World):(Op.equalIn (9999+1) 131 (.agg #[.int .i64 x,.int .i64 y]) (.agg #[.int .i64 a,.int .i64 b])).run prog w=.ok (decide (x=a∧y=b)) w:=by
 obtain⟨k,f⟩:=Option.isSome_iff_exists.1 ae5;rw[run_equalIn_array w 9999 _ _ acK f,aaj];have g:∀(c d:Int) w,(part 3 #[iV c,iV d] (0*1)).run prog w=.ok (iV c) w:=fun c d w=>run_part_plain w sL rfl
 have h:∀(c d:Int) w,(part 3 #[iV c,iV d] 1).run prog w=.ok (iV d) w:=fun c d w=>run_part_plain w sL rfl
 have e:∀(c d:Int) w,(Op.equalIn 9999 3 (iV c) (iV d)).run prog w=.ok (c==d) w:=fun c d w=>run_equalIn_int w 9998 _ _ _ c d af0
 show(Op.eqItems 9999 3 1 _ _ [0,1]).run prog w=_;simp only[Op.eqItems,Sem.run_bind,g,e,Result.andThen_ok]
 by_cases i:x=a<;>by_cases j:y=b<;>simp[i,j,h,e]
theorem abN(x y a b:Int)(w:World):(binOp .eql 131 (.agg #[.int .i64 x,.int .i64 y]) (.agg #[.int .i64 a,.int .i64 b])).run prog w=.ok (.bool (decide (x=a∧y=b))) w:=by
 have c:=tq x y a b w;rw[show 9999+1=10000 from rfl]at c
 go_simp
section
variable {w0 w w':World} {C C':Nat→Nat} {Y:YB} {aw:Option Addr} {cap m m':Nat} {zs:List Int} {V V':PX}
theorem xM{base n:Nat}{v:Value}{L:List (Nat×Nat)}(h:w.ownsRow base 131 2 v n (cA L))(k:L.length=n):∃a c,v=.slice a n c∧∀i (b:i<L.length),∃g,a=some ⟨g,0,none⟩∧w.cell? ⟨g,i*2,none⟩=some (.int .i64 ((L[i]'b).1:Int))∧w.cell? ⟨g,i*2+1,none⟩=some (.int .i64 ((L[i]'b).2:Int)):=by
 rcases h.2 with⟨d,j⟩|⟨g,l,o,d,p,e,q,r,s,f⟩
 ·exact⟨none,0,by rw[d,j],fun i b=>by omega⟩
 ·refine⟨_,_,d,fun i b=>⟨g,rfl,?_,?_⟩⟩
  ·rw[ai e,<-Array.getElem?_toList,<-List.getElem?_take_of_lt (j:=n*2) (by omega),f]
   exact ky L i 0 b (by omega)
  ·rw[ai e,<-Array.getElem?_toList,<-List.getElem?_take_of_lt (j:=n*2) (by omega),f]
   exact ky L i 1 b (by omega)
theorem aeq{L:List (Nat×Nat)}{p:Nat×Nat->Prop}(h:∀i (a:i<L.length),¬p (L[i]'a)):¬∃x,x∈L∧p x:=by
 rintro⟨x,b,c⟩;obtain⟨i,a,rfl⟩:=List.getElem_of_mem b;exact h i a c
theorem ac9(a b:Nat)(L:List (Nat×Nat))(h:RW w0 w C Y aw cap zs V m)(y:w.ownsRow w0.heap.size 131 2 Y.bv L.length (cA L))(I:L.length<=1000000000):Calls prog 93 #[.pointer (some ⟨Y.xb,0,none⟩),.int .i64 (a:Int),.int .i64 (b:Int)] w fun e w'=>e=.returned (.bool (decide ((a,b)∈L∨(b,a)∈L)))∧w'=w:=by
 obtain⟨O,P,z,A⟩:=xM y rfl;have B:=(h.cells).2.2.1;rw[z]at B;have J:=hid A;obtain⟨g,s⟩:=nmd (L.length);rw[s.out]at B I;clear h y z A
 go_enter func93,ntmps93
 go_wp2_with fail
 go_loopw [7] (fun t wr=>∃c:Nat,c<=g∧t=iV (c:Int)∧wr=w∧∀i (j:i<L.length),i<c->¬(L[i]'j=(a,b)∨L[i]'j=(b,a))) (fun t _=>g-(intOf t).toNat)
 case atStart=>exact⟨0,Nat.zero_le _,rfl,rfl,fun _ _ u=>absurd u (Nat.not_lt_zero _)⟩
 case round =>
  obtain⟨c,Q,rfl,K,D⟩:=hrel;subst K;have E:=hid D;clear D
  by_cases M:c<g
  ·have n:c<L.length:=by rw[s.out];exact M
   obtain⟨R,rfl,F,G⟩:=J.out c n;obtain⟨⟨f,o⟩,p⟩:∃e,Hid (L[c]'n=e):=⟨_,rfl⟩;rw[p.out]at F G;simp only at F G;obtain⟨q,v⟩:=nmd (decide ((f:Int)=(a:Int)∧(o:Int)=(b:Int)));obtain⟨d,x⟩:=nmd (decide ((f:Int)=(b:Int)∧(o:Int)=(a:Int)));have S:∀w,(binOp .eql 131 (.agg #[iV (f:Int),iV (o:Int)]) (.agg #[iV (a:Int),iV (b:Int)])).run prog w=.ok (.bool q) w:=fun w=>by rw[<-v.out];exact abN _ _ _ _ w
   have T:∀w,(binOp .eql 131 (.agg #[iV (f:Int),iV (o:Int)]) (.agg #[iV (b:Int),iV (a:Int)])).run prog w=.ok (.bool d) w:=fun w=>by rw[<-x.out];exact abN _ _ _ _ w
   cases q with
   | true =>
    have r:=cK v;have k:(a,b)∈L:=by
     rw[show(a,b)=L[c]'n by rw[p.out,Prod.mk.injEq];omega];exact List.getElem_mem _
    have l:Hid (decide ((a,b)∈L∨(b,a)∈L)=true):=bo (.inl k);clear r k
    go_wp2_with fail
    go_ret
    exact⟨by rw[l.out];rfl,rfl⟩
   | false =>
    cases d with
    | true =>
     have r:=cK x;have k:(b,a)∈L:=by
      rw[show(b,a)=L[c]'n by rw[p.out,Prod.mk.injEq];omega];exact List.getElem_mem _
     have l:Hid (decide ((a,b)∈L∨(b,a)∈L)=true):=bo (.inr k);clear r k
     go_wp2_with fail
     go_ret
     exact⟨by rw[l.out];rfl,rfl⟩
    | false =>
     go_wp2_with fail
     go_roundw
     case rel =>
      refine⟨c+1,by omega,by go_num,trivial,fun H u U=>?_⟩
      by_cases e:H=c
      ·subst e
       rw[p.out];have r:=of_decide_eq_false v;have W:=of_decide_eq_false x;rw[Prod.mk.injEq,Prod.mk.injEq];omega
      ·exact E H u (by omega)
     case measure=>simp[intOf];omega
  ·obtain rfl:c=g:=by omega
   have l:Hid (decide ((a,b)∈L∨(b,a)∈L)=false):=aS (fun N=>aeq (p:=fun f=>f=(a,b)∨f=(b,a)) (fun i j=>E i j (by rw[<-s.out];exact j)) (by
    rcases N with d|d
    ·exact⟨_,d,.inl rfl⟩
    ·exact⟨_,d,.inr rfl⟩))
   go_wp2_with fail
   go_ret
   exact⟨by rw[l.out];rfl,rfl⟩
theorem aar(a b:Nat)(h:RW w0 w C Y aw cap zs V m)(i:a<7)(j:b<7)(l:m<=100000000):Calls prog 93 #[.pointer (some ⟨Y.xb,0,none⟩),.int .i64 (a:Int),.int .i64 (b:Int)] w fun e w'=>e=.returned (.bool (!(decide (a=b) || !brX V a b)))∧w'=w:=by
 obtain⟨d,k,f,n⟩:=h.brk;refine(ac9 a b d h k (by omega)).mono ?_;rintro e w' ⟨rfl,rfl⟩;refine⟨?_,rfl⟩
 congr 2
 by_cases e:a=b
 ·subst e
  have:¬((a,a)∈d∨(a,a)∈d):=fun c=>by
   rcases c with c|c<;>exact f.2 _ c rfl
  rw[aS this];simp
 ·have:=f.1 a b i j e
  cases g:brX V a b with
  | true=>rw[g]at this;rw[bo (this.1 rfl)];simp[e]
  | false=>rw[g]at this;rw[aS (fun c=>by cases this.2 c)];simp
end
theorem Tryz.infoTwo:(prog.info? 131).map (fun i=>(i.zero,i.size,i.bytes))=some (some (.agg #[.int .i64 0,.int .i64 0]),2,16):=by kernel_rfl
theorem agG(x:Nat×Nat):∀a∈gM x,a.oneCell'=true:=by
 intro a b;simp[gM]at b;rcases b with rfl|rfl<;>rfl
theorem jY{w:World}{ops:Array Oper}{rest:List Oper}{o:Oper}{a:Act}{Q:Exit->Act->World->Prop}(k:o.guard=none)(s x:Operand)(l:o.op=.call { callee:=.builtin .append,args:=#[s,x],argTypes:=#[54,54] })(base n:Nat)(v:Value)(f:Addr)(c:Nat)(xs:List Value)(e:Nat×Nat)(m:a.eval s=v)(p:a.eval x=.slice (some f) 1 c)(q:w.ownsRow base 131 2 v n xs)(r:∀j g,(gM e)[j]?=some g->w.cell? (f.add j)=some g)(F:n<=1000000000000)(t:base<=w.heap.size)(h:∀b d w',w'.ownsRow base 131 2 (.slice b (n+1) d) (n+1) (xs++gM e)->w.grownBy w' v.ownBlock->wpList prog ops Q rest (a.put o.dst (.slice b (n+1) d)) w'):wpList prog ops Q (o::rest) a w:=by
 obtain⟨u,y,z,A,B⟩:=info_parts Tryz.infoTwo;refine wpList_append_own_at w k s x 54 l base 131 u _ 2 16 underlying54 y z A B rfl (by decide) v n xs m q f 1 c (gM e) p rfl r (agG e) (by unfold maxLen;omega) (by omega) t ?_;intro C w' i D _ G;obtain⟨b,d,rfl⟩:∃b d,C=.slice b (n+1) d:=by
  rcases i.2 with⟨e,E⟩|⟨H,cap,I,e,-⟩
  ·exact⟨none,0,by rw[e,E]⟩
  ·exact⟨_,_,e⟩
 exact h b d w' i D
theorem abz(x y a b:Int)(w:World):(binOp .neq 131 (.agg #[.int .i64 x,.int .i64 y]) (.agg #[.int .i64 a,.int .i64 b])).run prog w=.ok (.bool (!decide (x=a∧y=b))) w:=by
 have c:=tq x y a b w;rw[show 9999+1=10000 from rfl]at c
 go_simp
def cQ(a b:Nat)(L:List (Nat×Nat)):List (Nat×Nat):=L.filter (fun x=>decide (x≠(a,b))&&decide (x≠(b,a)))
def jG(a b:Nat)(whole:Bool)(L:List (Nat×Nat)):List (Nat×Nat):=cQ a b L++if whole=false∧a≠b then[(a,b)]else[]
theorem ac4{a b:Nat}{L:List (Nat×Nat)}{x:Nat×Nat}:x∈cQ a b L ↔ x∈L∧x≠(a,b)∧x≠(b,a):=by
 unfold cQ;rw[List.mem_filter,Bool.and_eq_true,decide_eq_true_iff,decide_eq_true_iff]
theorem acW{V:PX}{L:List (Nat×Nat)}{a b:Nat}{whole:Bool}(h:vF V L):vF (eH V a b whole) (jG a b whole L):=by
 have f:∀c,c∈jG a b whole L ↔ (c∈L∧c≠(a,b)∧c≠(b,a))∨(whole=false∧a≠b)∧c=(a,b):=fun c=>by
  unfold jG;rw[List.mem_append,ac4]
  by_cases e:whole=false∧a≠b
  ·rw[af e,List.mem_singleton];simp only[e,true_and,ne_eq,not_false_eq_true]
  ·rw[aa e];simp only[e,false_and,List.not_mem_nil]
 refine⟨fun c d g k l=>?_,fun c g=>?_⟩
 ·rw[f,f]
  have m:=h.1 c d g k l;show(if min c d=min a b∧max c d=max a b then !whole else V.br (min c d) (max c d))=true ↔ _;simp only[Prod.mk.injEq,ne_eq]
  by_cases e:min c d=min a b∧max c d=max a b
  ·rw[af e]
   have i:(c=a∧d=b)∨(c=b∧d=a):=by omega
   have j:a≠b:=by omega
   cases whole with
   | true =>
    simp only[Bool.not_true,Bool.false_eq_true,false_iff,Bool.true_eq_false,false_and,or_false];rcases i with⟨rfl,rfl⟩|⟨rfl,rfl⟩<;>simp
   | false =>
    simp only[Bool.not_false,true_iff,true_and];rcases i with⟨rfl,rfl⟩|⟨rfl,rfl⟩
    ·exact .inl (.inr ⟨j,rfl,rfl⟩)
    ·exact .inr (.inr ⟨j,rfl,rfl⟩)
  ·rw[aa e]
   have n:¬(c=a∧d=b):=by omega
   have o:¬(c=b∧d=a):=by omega
   have p:¬(d=a∧c=b):=by omega
   have q:¬(d=b∧c=a):=by omega
   rw[show V.br (min c d) (max c d)=brX V c d from rfl,m];simp only[n,o,p,q,not_false_eq_true,and_true,and_false,or_false]
 ·rcases (f c).1 g with⟨e,-⟩|⟨⟨-,e⟩,rfl⟩
  ·exact h.2 c e
  ·exact e
section
variable {w0 w w':World} {C C':Nat→Nat} {Y:YB} {aw:Option Addr} {cap m m':Nat} {zs:List Int} {V V':PX}
theorem XI.linked{a b:Nat}{whole:Bool}(h:XI zs V m):XI zs (eH V a b whole) (m+1):=
 have c:=h.mono (aP m)
 ⟨c.he,c.nd,c.fr,c.fl,c.ev⟩
theorem RW.linked{a b:Nat}{whole:Bool}{Bk:List (Nat×Nat)}{v':Value}(h:RW w0 w C Y aw cap zs V m)(q:Below w.heap.size w w')(n:w'.ownsRow w.heap.size 131 2 v' Bk.length (cA Bk))(r:vF (eH V a b whole) Bk)(s:Bk.length<=m+1):ROut w0 w (w'.setCell ⟨Y.xb,2,none⟩ v') C Y aw cap zs (eH V a b whole) (m+1):=by
 have f:=ah h.row;have t:=h.cx;have u:w'.heap[Y.xb]?=some (.cells (rwC Y aw zs.length cap).toArray 58 (0,0)):=(q.block _ f).trans h.row;have j:Kept (In1 Y.xb) w (w'.setCell ⟨Y.xb,2,none⟩ v'):=(Kept.of_below q).set1 2 v';have v:(w'.setCell ⟨Y.xb,2,none⟩ v').heap[Y.xb]?=some (.cells (rwC { Y with bv:=v',fv:=Y.fv,ev:=Y.ev } aw zs.length cap).toArray 58 (0,0)):=by
  rw[aE w' Y.xb 2 _ _ _ u];rfl
 have x:(w'.setCell ⟨Y.xb,2,none⟩ v').ownsRow w0.heap.size 125 9 Y.fv V.fly.length (am V.fly):=aV h.fly j (fun c e g=>by
  have o:=h.cf c e;rw[show c=Y.xb from g]at o;omega)
 have y:(w'.setCell ⟨Y.xb,2,none⟩ v').ownsRow w0.heap.size 77 3 Y.ev V.evs.length (bu V.evs):=aV h.evs j (fun c e g=>by
  have o:=h.ce c e;rw[show c=Y.xb from g]at o;omega)
 have z:(w'.setCell ⟨Y.xb,2,none⟩ v').ownsRow w0.heap.size 131 2 v' Bk.length (cA Bk):=od (aV n ((Kept.refl (In1 Y.xb) w').set1 2 v') (fun c e g=>by have:=(n.lt c e).1;rw[show c=Y.xb from g]at this;omega)) h.bel.size;obtain⟨i,k,A,B⟩:∃i:Nat->Nat,(∀d,d<w.heap.size->i d=C d)∧(∀d,w.heap.size<=d->i d<2000->d<(w'.setCell ⟨Y.xb,2,none⟩ v').heap.size)∧∀c,v'.ownBlock=some c->i c=1004:=by
  cases D:v'.ownBlock with
  | none=>exact⟨C,fun _ _=>rfl,fun d f l=>by have:=h.lt d l;omega,fun c e=>by cases e⟩
  | some p =>
   have E:=n.lt p D;refine⟨bV C p 1004,fun d f=>aq (by omega),fun d f l=>?_,fun c e=>?_⟩
   ·by_cases g:d=p
    ·rw[g];simpa using E.2
    ·rw[aq g]at l
     have:=h.lt d l;omega
   ·obtain rfl:=bF e
    exact bw _ _ _
 refine⟨i,{ Y with bv:=v',fv:=Y.fv,ev:=Y.ev },?_,rfl,j.mono (fun d f=>by show C d<2000;rw[show d=Y.xb from f];omega),k⟩;exact h.own (br:=(eH V a b whole).br) j (fun d f=>.inl (by rw[show d=Y.xb from f];exact t)) k A v z r s x y B (fun c e=>by rw[k c (kt h.fly e)];exact h.cf c e) (fun c e=>by rw[k c (kt h.evs e)];exact h.ce c e) h.inv.linked
end
end Go.Proofs.YtaehdgemkafinaaGreatDoor
