/-
  On the way to SPlaysProof: X1 X2 X3 X4 X6.
-/
import Derived.Test.YtaehdgemkafinaaGreatDoorBx39
import Derived.Test.YtaehdgemkafinaaGreatDoorBx36
set_option maxHeartbeats 8000000
set_option maxRecDepth 100000
namespace Go.Proofs.YtaehdgemkafinaaGreatDoor
open Go.RowKit
open Go.Proofs.Tryz
def gq(V:PX)(d:Nat):Nat->Bool
 | 0=>true
 | k+1=>gq V d k&&((V.nd k).ld d).isNone&&decide ((stN (V.nd k) d).ph=0∧(stN (V.nd k) d).pr=0∧(stN (V.nd k) d).at_=0)
theorem lK(V:PX)(d:Nat):∀n,hU n V d=!gq V d n
 | 0=>rfl
 | n+1=>by
  have a:=lK V d n;unfold hU at a ⊢;rw[List.range_succ,List.any_append,a,gq]
  cases gq V d n
  ·simp
  ·cases b:(V.nd n).ld d<;>simp[b]
section
variable {w0 w w1 w':World} {C C':Nat→Nat} {K:RB} {Y:YB} {aw:Option Addr} {i n cap m m':Nat} {zs:List Int} {N:PN} {V V':PX}
theorem oV{d k:Nat}(h:gq V d k=false):∀j,gq V d (k+j)=false
 | 0=>h
 | j+1=>by
  show gq V d (k+j+1)=false;rw[gq,oV h j];rfl
theorem ac1(s d:Nat)(c:Nat)(h:RW w0 w C Y aw cap zs V m)(T:s<zs.length)(t:d<6)(I:upN (V.nd s)=true)(hm:m<1000000)(U:(if hU zs.length V d=true then 8 else 0)=c):Calls prog 22 #[.pointer (some ⟨Y.xb,0,none⟩),.int .i64 (s:Int),.int .i64 (d:Int)] w fun e w'=>e=.returned (.int .i64 (c:Int))∧ROut w0 w w' C Y aw cap zs (if c=0 then dP zs V s d else V) (m+1):=by
 have A:=hid h;have HU:=hid (kw (s:Int) 0 h (by unfold cUp;rw[if_pos ⟨by omega,by omega⟩,Int.toNat_natCast,if_pos I]));have b3:=hid I;obtain⟨W,J,-,-,-⟩:=h.cells;have X:=h.n7;have r:=hid T;have Z:=hid U;obtain⟨f,b⟩:=nmd (zs.length);rw[b.out]at W J T X;have c8:¬((f:Int)≤(s:Int)):=by omega
 clear h I U
 go_enter func22,ntmps22
 go_wp2_with fail
 refine HU.mono ?_;rintro e w1 ⟨rfl,j⟩;subst w1
 go_wp2_with fail
 go_loopw [8] (fun L wr=>∃a:Nat,a≤f∧L=iV (a:Int)∧gq V d a=true∧bW w wr) (fun L _=>f-(intOf L).toNat)
 case atStart=>exact⟨0,Nat.zero_le _,rfl,rfl,Below.refl _ _⟩
 case round =>
  obtain⟨a,hk,rfl,hf,M⟩:=hrel
  rename_i wr
  have HF:=hid hf;have l:=hid M;have k:=cell_later M J;clear hf M
  by_cases b4:a<f
  ·have B:a<zs.length:=by rw[b.out];exact b4
   have u:=hid (A.later l);obtain⟨⟨D,E,F⟩,a0⟩:∃o,Hid (stN (V.nd a) d=o):=⟨_,rfl⟩;have x:=hid (sQ a d D E F u B t a0);obtain⟨y,HP⟩:=nmd ((!decide (D=0∧E=0∧F=0)));have hp:∀w,(binOp .neq 80 (.agg #[iV (D:Int),iV (E:Int),iV (F:Int)]) (.agg #[iV 0,iV 0,iV 0])).run prog w=.ok (.bool y) w:=fun w=>by rw[←HP.out];exact adg D E F w
   have O:Hid (gq V d (a+1)=(((V.nd a).ld d).isNone && !y)):=by
    show gq V d (a+1)=_;rw[gq,HF.out,a0.out,←HP.out];simp
   have a1:Hid (gq V d (a+1)=false→c=8):=by
    intro b5;have h5:=oV b5 (f-(a+1));rw[show a+1+(f-(a+1))=f by omega]at h5;have:=Z.out;rw[lK,b.out,h5]at this;rw[←this];rfl
   have c9:(a:Int)<(f:Int):=by omega
   unfold agS at x
   go_wp2_with fail
   refine x.mono ?_;rintro e P ⟨rfl,p⟩;have G:=hid (l.trans (p.mono l.size));have g:=hid (u.later p);clear p k;obtain⟨-,k,-,-,-⟩:=g.cells;rw[b.out]at k;have e1:=g.ns a B;obtain⟨-,-,d2,-⟩:=(g.nds a B).cells;have Q:=(g.nds a B).lead t
   cases y with
   | true =>
    obtain rfl:c=8:=a1.out (by rw[O.out];simp)
    go_wp2_with fail
    go_ret
    exact⟨rfl,A.out.out G (Nat.le_succ _)⟩
   | false =>
    cases j:(V.nd a).ld d with
    | some o =>
     obtain rfl:c=8:=a1.out (by rw[O.out,j];rfl);rw[gz j]at Q;clear j
     go_wp2_with fail
     go_ret
     exact⟨rfl,A.out.out G (Nat.le_succ _)⟩
    | none =>
     have HN:=hid (show gq V d (a+1)=true by rw[O.out,j];rfl);rw[iu j]at Q;clear j
     go_wp2_with fail
     go_roundw
     case rel=>exact⟨a+1,by omega,by go_num,HN,G⟩
     case measure=>simp[intOf];omega
  ·obtain rfl:a=f:=by omega
   have b6:Hid (c=0):=by
    have:=Z.out;rw[lK,b.out,HF.out]at this;rw[←this];rfl
   obtain rfl:=b6.out;have u:=hid (A.later l);clear k J;obtain⟨a2,k,-,-,-⟩:=u.cells;rw[b.out]at a2 k;have b7:=hid (fun w=>nr s a cap (d:Int) 0 aw w)
   go_wp2_with fail
   refine(b7 _).mono ?_;rintro e P ⟨H,rfl,a3,p,a4⟩;have G:=hid (l.trans (p.mono l.size));have g:=hid (u.later p);have a5:=hid (And.intro a3 a4);have b8:=hid p;clear a3 p a4 a2 k W;obtain⟨-,k,-,-,-⟩:=g.cells;rw[b.out]at k;have e1:=g.ns s r;obtain⟨-,-,d2,-⟩:=(g.nds s r).cells;have Q:=(g.nds s r).lead t;have f3:P.frozen? ⟨(Y.K s).ls,d,none⟩=false:=dN (g.nds s r).lrow;obtain⟨z,a6⟩:=nmd (P.setCell ⟨(Y.K s).ls,d,none⟩ (pV H));have d0:=a6.out;have b9:Hid (∃v,RW w0 z v { Y with K:=fun e=>if e=s then dY (Y.K s) d H (.slice none 0 0)else Y.K e } aw cap zs (aA V s (aC (V.nd s) d (0,P0))) m∧Kept (di C) wr z∧(∀o,o<wr.heap.size→v o=C o)):=by
    have:=u.leadNew (m':=m) (a:=0) r t b3 b8 (by rw[b.out];exact a5.1) a5.2 ⟨Int.le_refl _,by decide⟩ aj;rw[a6.out]at this;obtain⟨v,x1,x2,x3,-⟩:=this;exact⟨v,x1,x2,x3⟩
   obtain⟨v,R,a7,a8⟩:=b9.out;have c0:=hid R;have c1:=hid a7;have c2:=hid a8;have c3:Hid (∃q:LSt,RLd z H s a cap (d:Int) 0 aw (stB q.stt) q.wait (.slice none 0 0) q.hs q.ph q.seen):=by
    obtain⟨q,-,r2⟩:=(R.nds s r).lds d t (0,P0) (by simp[aA,aC]);refine⟨q,?_⟩;rw[←b.out]
    simpa [dY]using r2
   obtain⟨q,a9⟩:=c3.out;have x:=hid (oZ a9 (by omega));rw[aae]at x;have b0:=hid (ou r (by rw[b.out];exact X.2) t);clear R a7 a8 a9
   go_wp2_with fail
   refine x.mono ?_;rintro e w4 ⟨c4,rfl,b1,S⟩;have c5:=hid (la c4 _ (c0.later S) b1 (by rw[←b.out];exact b0.1) (by rw[←b.out];exact b0.2) (by omega));have c6:=hid S;clear b1 S
   go_wp2_with fail
   refine c5.mono ?_;rintro e w5 ⟨rfl,b2⟩;have c7:=hid b2;clear b2
   go_wp2_with fail
   go_ret
   refine⟨rfl,?_⟩;have e9:dP zs V s d=aW (aA V s (aC (V.nd s) d (0,P0))) (toL s d 1 0 0 a):=by unfold dP;rw[b.out]
   rw[e9];refine ROut.step (Y1:={ Y with K:=fun e=>if e=s then dY (Y.K s) d H (.slice none 0 0)else Y.K e }) (C1:=v) (w1:=w4) (kx rfl) ((Kept.of_below l).trans (c1.trans (Kept.of_below c6))) (fun o j=>c2 o (Nat.lt_of_lt_of_le j l.size)) c7
theorem zE(s d:Int)(c:Nat)(h:RW w0 w C Y aw cap zs V m)(p:m<1000000)(b:eO zs.length V s d=c):Calls prog 22 #[.pointer (some ⟨Y.xb,0,none⟩),.int .i64 s,.int .i64 d] w fun e w'=>e=.returned (.int .i64 (c:Int))∧ROut w0 w w' C Y aw cap zs (if c=0 then dP zs V s.toNat d.toNat else V) (m+1):=by
 by_cases a:(0<=s∧s<zs.length)∧0<=d∧d<6
 ·obtain⟨j,rfl⟩:=bD a.1.1
  obtain⟨e,rfl⟩:=bD a.2.1;rw[aU,aU];unfold eO at b;rw[af a,aU,aU]at b
  by_cases k:upN (V.nd j)=true
  ·rw[af k]at b
   exact ac1 j e c h (by omega) (by omega) k p b
  ·rw[aa k]at b
   subst b;have g:=hid h;have q:=hid (kw (j:Int) 6 h (by unfold cUp;rw[af a.1,aU,aa k]));obtain⟨r,l,-,-,-⟩:=h.cells;obtain⟨f,o⟩:=nmd (zs.length);rw[o.out]at r l a;have t:¬((f:Int)<=(j:Int)):=by omega
   have u:¬((6:Int)<=(e:Int)):=by omega
   have v:e<6:=by omega
   have x:j<f:=by omega
   rw[aa (by decide)];clear h k a
   go_enter func22,ntmps22
   go_wp2_with fail
   refine q.mono ?_;rintro e w1 ⟨rfl,y⟩;subst w1
   go_wp2_with fail
   go_ret
   exact⟨rfl,g.out.out aF (aP _)⟩
 ·have e:c=2:=by rw[<-b];unfold eO;rw[aa a]
  subst e;rw[aa (by decide)];have g:=hid h;obtain⟨-,l,-,-,-⟩:=h.cells;obtain⟨f,o⟩:=nmd (zs.length);rw[o.out]at l a;clear h b
  by_cases z:d<0
  ·clear a
   go_enter func22,ntmps22
   go_wp2_with fail
   go_ret
   exact⟨rfl,g.out.out aF (aP _)⟩
  ·by_cases A:(6:Int)<=d
   ·clear a
    go_enter func22,ntmps22
    go_wp2_with fail
    go_ret
    exact⟨rfl,g.out.out aF (aP _)⟩
   ·by_cases B:s<0
    ·clear a
     go_enter func22,ntmps22
     go_wp2_with fail
     go_ret
     exact⟨rfl,g.out.out aF (aP _)⟩
    ·have D:(f:Int)<=s:=by omega
     clear a
     go_enter func22,ntmps22
     go_wp2_with fail
     go_ret
     exact⟨rfl,g.out.out aF (aP _)⟩
end
section
variable {w0 w w1 w':World} {C C':Nat→Nat} {K:RB} {Y:YB} {aw:Option Addr} {i n cap m m':Nat} {zs:List Int} {N:PN} {V V':PX}
def ee(C:Nat->Nat)(i t m gn gs gb:Nat):Nat->Nat:=bV (bV (bV (bV (bV C t (100*i+2)) m (100*i+3)) gn (100*i+4)) gs (100*i+5)) gb (100*i+6)
theorem tw{t mm gn gs gb b:Nat}(h:b<=t∧b<=mm∧b<=gn∧b<=gs∧b<=gb){x:Nat}(a:x<b):ee C i t mm gn gs gb x=C x:=by
 unfold ee;rw[aq (by omega),aq (by omega),aq (by omega),aq (by omega),aq (by omega)]
theorem sH{t mm gn gs gb:Nat}(h1:t≠mm∧t≠gn∧t≠gs∧t≠gb)(a:gb≠mm∧gb≠gn∧gb≠gs)(b:mm≠gn∧mm≠gs∧gn≠gs):ee C i t mm gn gs gb t=100*i+2∧ee C i t mm gn gs gb mm=100*i+3∧ee C i t mm gn gs gb gn=100*i+4∧ee C i t mm gn gs gb gs=100*i+5∧ee C i t mm gn gs gb gb=100*i+6:=by
 unfold ee;refine⟨?_,?_,?_,?_,?_⟩
 ·rw[aq h1.2.2.2,aq h1.2.2.1,aq h1.2.1,aq h1.1,bw]
 ·rw[aq (Ne.symm a.1),aq b.2.1,aq b.1,bw]
 ·rw[aq (Ne.symm a.2.1),aq b.2.2,bw]
 ·rw[aq (Ne.symm a.2.2),bw]
 ·rw[bw]
theorem ab2{t mm gn gs gb x:Nat}(h:ee C i t mm gn gs gb x<2000):C x<2000∨x=t∨x=mm∨x=gn∨x=gs∨x=gb:=by
 unfold ee at h
 by_cases a:x=gb
 ·omega
 ·rw[aq a]at h
  by_cases b:x=gs
  ·omega
  ·rw[aq b]at h
   by_cases c:x=gn
   ·omega
   ·rw[aq c]at h
    by_cases d:x=mm
    ·omega
    ·rw[aq d]at h
     by_cases e:x=t
     ·omega
     ·rw[aq e]at h
      exact .inl h
structure WkI (w w1 w2:World) (r i:Nat) (B:ByteArray) (l:Int) (t mm gn gs gb:Nat):Prop where
 k1:Kept (In1 r) w w1
 rp:RP w1 r B false l false
 rj:RJ w2 mm gn gs r (au B.data.toList) false
 rs:RSt w2 t mm gb (i:Int) (fun _=>false)
 b2:Below w1.heap.size w1 w2
 lo:w1.heap.size<=t∧w1.heap.size<=mm∧w1.heap.size<=gn∧w1.heap.size<=gs∧w1.heap.size<=gb
 ht:t≠mm∧t≠gn∧t≠gs∧t≠gb
 hb:gb≠mm∧gb≠gn∧gb≠gs
def oA(K:RB)(t mm gn gs gb:Nat):RB:={ K with t:=t,m:=mm,gn:=gn,gs:=gs,gb:=gb }
theorem RN.dark(h:NI n N m)(a:N.l=-2)(d:Nat):N.ld d=none:=by
 cases b:N.ld d with
 | none=>rfl
 | some c=>exact((h.ld d c b).1 a).elim
theorem WkI.lts{w w1 a:World}{r i:Nat}{B:ByteArray}{l:Int}{t mm gn gs gb:Nat}(h:WkI w w1 a r i B l t mm gn gs gb):t<a.heap.size∧mm<a.heap.size∧gn<a.heap.size∧gs<a.heap.size∧gb<a.heap.size:=by
 obtain⟨b,c,d⟩:=h.rj.lts;exact⟨ah h.rs.row,b,c,d,ah h.rs.refs⟩
theorem RW.wakeNT{b:World}{l:Int}{t mm gn gs gb:Nat}(h:RW w0 w C Y aw cap zs V m)(x:i<zs.length)(c:WkI w w1 b (Y.K i).r i (V.nd i).B l t mm gn gs gb):NT w0.heap.size (b.setCell ⟨(Y.K i).nd,0,none⟩ (.pointer (some ⟨t,0,none⟩))) (ee C i t mm gn gs gb) Y (oA (Y.K i) t mm gn gs gb) aw cap zs.length i (fun d=>aT (stN (V.nd i) d).ph) (au (V.nd i).B.data.toList) V.evs:=by
 have Z:=h.n7.2;have g:=h.nds i x;have y:=g.cn;have A:=g.cr;have e3:=g.cl;have B:=g.cd;have D:=h.cx;have E:=h.cn;have a0:=c.k1.size;have F:=c.lo;have a1:=c.lts;have a2:=ah g.row;have G:∀a,a<w.heap.size->ee C i t mm gn gs gb a=C a:=fun a f=>tw (b:=w1.heap.size) F (by omega)
 have o:∀{a s:Nat},C a=s->s<2000->ee C i t mm gn gs gb a=s:=fun {a s} H hc=>(G a (h.lt a (by omega))).trans H
 obtain⟨I,J,p3,L,p5⟩:=sH (C:=C) (i:=i) c.ht c.hb ⟨c.rj.mn,c.rj.ms,c.rj.ns⟩;have p:Kept (In1 (Y.K i).r) w b:=c.k1.trans (Kept.of_below c.b2);have j:Kept (In1 (Y.K i).nd) b (b.setCell ⟨(Y.K i).nd,0,none⟩ (pV t)):=(Kept.refl _ b).set1 0 _;have q:∀a,C a≠100*i+7->¬In1 (Y.K i).r a:=fun a e f=>e (by rw[show a=_ from f];exact A)
 have u:∀a,a≠(Y.K i).nd->¬In1 (Y.K i).nd a:=fun a e f=>e f
 have v:∀a,C a≠100*i+1->¬In1 (Y.K i).nd a:=fun a e f=>e (by rw[show a=_ from f];exact y)
 have M:b.heap[(Y.K i).nd]?=some (.cells (kB (Y.K i) (V.nd i)).toArray 69 (0,0)):=p.row g.row (q _ (by omega));have z:=aE b (Y.K i).nd 0 _ _ (pV t) M;obtain⟨a3,O,P⟩:=c.rj.row;obtain⟨a4,Q,R⟩:=c.rj.sts;have S:=c.rs.kept j (u _ (by omega)) (u _ (by omega));have T:=j.row P (u _ (by omega));have U:=j.row Q (u _ (by omega));refine⟨j.row (p.row h.row (q _ (by omega))) (v _ (by omega)),aI (aI (h.ns i x) p (q Y.nb (by omega))) j (v Y.nb (by omega)),?_,?_,S.cells.2.1,⟨O,?_⟩,fun d W=>?_,j.row (p.row g.drow (q (Y.K i).dn (by omega))) (v (Y.K i).dn (by omega)),aV (aV h.evs p (fun k r=>q k (by have:=h.ce k r;omega))) j (fun k r=>v k (by have:=h.ce k r;omega)),h.inv.ev,by omega,o D (by omega),o E (by omega),o y (by omega),I,J,L,o B (by omega),fun k r=>o (h.ce k r) (by omega),fun a f=>?_⟩
 ·show(b.setCell ⟨(Y.K i).nd,0,none⟩ (pV t)).cell? ⟨(Y.K i).nd,0,none⟩=_
  rw[ai z];rfl
 ·show(b.setCell ⟨(Y.K i).nd,0,none⟩ (pV t)).cell? ⟨(Y.K i).nd,3,none⟩=_
  rw[ai z];rfl
 ·show(b.setCell ⟨(Y.K i).nd,0,none⟩ (pV t)).cell? ⟨mm,2,none⟩=_
  rw[ai T];rfl
 ·show(b.setCell ⟨(Y.K i).nd,0,none⟩ (pV t)).cell? ⟨gs,d*3,none⟩=_
  rw[ai U];exact(R d W).1
 ·have X:=ab2 f
  have a5:=c.b2.size;show a<(b.setCell _ _).heap.size;rw[show(b.setCell ⟨(Y.K i).nd,0,none⟩ (pV t)).heap.size=b.heap.size by simp];rcases X with e|e|e|e|e|e
  ·have:=h.lt a e;omega
  all_goals omega
theorem RW.wakeOut{f g:World}{l:Int}{t mm gn gs gb:Nat}(h:RW w0 w C Y aw cap zs V m)(E:i<zs.length)(Q:(V.nd i).l=-2)(e:WkI w w1 f (Y.K i).r i (V.nd i).B l t mm gn gs gb)(v:NTo w0.heap.size (f.setCell ⟨(Y.K i).nd,0,none⟩ (.pointer (some ⟨t,0,none⟩))) g (ee C i t mm gn gs gb) Y (oA (Y.K i) t mm gn gs gb) aw cap zs.length i (el (fun d=>aT (stN (V.nd i) d).ph) (fun d=>(au (V.nd i).B.data.toList d).2.ph) 6) (au (V.nd i).B.data.toList) (cR V.evs i (fun d=>aT (stN (V.nd i) d).ph) (fun d=>(au (V.nd i).B.data.toList d).2.ph) 6))(F:m<=m'):ROut w0 w g C Y aw cap zs (upX V i) m':=by
 have n7:=h.n7.2;have k:=h.nds i E;have G:=h.inv.nd i E;have H:=k.cn;have I:=k.cr;have e3:=k.cl;have e4:=k.cd;have b1:=e.k1.size;have a1:=e.lo;have x:=e.lts;have R:=ah k.row;have S:=ah k.lrow;have T:=ah k.drow;have U:(Y.K i).r<w.heap.size:=h.lt _ (by omega);have q:∀a,a<w.heap.size->ee C i t mm gn gs gb a=C a:=fun a c=>tw (b:=w1.heap.size) a1 (by omega)
 obtain⟨p1,p2,p3,p4,p5⟩:=sH (C:=C) (i:=i) e.ht e.hb ⟨e.rj.mn,e.rj.ms,e.rj.ns⟩;rw[zm (F:=V.evs) (i:=i) (g:=fun d=>aT (stN (V.nd i) d).ph) (p:=fun d=>(au (V.nd i).B.data.toList d).2.ph) (fun b2 _=>rfl)]at v;obtain⟨J,a2,y,j,p⟩:=v;have a3:(f.setCell ⟨(Y.K i).nd,0,none⟩ (pV t)).heap.size=f.heap.size:=by simp
 have b3:=e.b2.size;rw[a3]at p;have r:∀a,a<w.heap.size->J a=C a:=fun a c=>(p a (by omega)).trans (q a c)
 have L:Kept (In1 (Y.K i).r) w f:=e.k1.trans (Kept.of_below e.b2);have B:Kept (In1 (Y.K i).nd) f (f.setCell ⟨(Y.K i).nd,0,none⟩ (pV t)):=(Kept.refl _ f).set1 0 _;have W:∀a,C a≠100*i+7->¬In1 (Y.K i).r a:=fun a b c=>b (by rw[show a=_ from c];exact I)
 have X:∀a,C a≠100*i+1->¬In1 (Y.K i).nd a:=fun a b c=>b (by rw[show a=_ from c];exact H)
 have z:∀a,a≠(Y.K i).nd->¬In1 (Y.K i).nd a:=fun a b c=>b c
 have o:∀a,ee C i t mm gn gs gb a≠1001->ee C i t mm gn gs gb a≠1006->ee C i t mm gn gs gb a≠100*i+9->¬InN (ee C i t mm gn gs gb) i a:=fun a q1 q2 q3 c=>by
  rcases c with b|b|b<;>omega
 have Z:Kept (fun a=>C a=100*i+1∨C a=100*i+7∨C a=1001∨C a=1006∨C a=100*i+9) w g:=by
  have s:Kept (fun a=>C a=100*i+1∨C a=100*i+7∨C a=1001∨C a=1006∨C a=100*i+9) w (f.setCell ⟨(Y.K i).nd,0,none⟩ (pV t)):=(L.mono (fun a c=>by rw[show a=_ from c];exact .inr (.inl I))).setCell (.inl H) _;refine⟨j.os.trans s.os,j.tape.trans s.tape,j.output.trans s.output,bc s.size j.size,fun M O v=>?_⟩;refine(j.block M (bm O s.size) (fun b=>v ?_)).trans (s.block M O v);unfold InN at b;rw[q M O]at b;rcases b with b|b|b
  ·exact .inr (.inr (.inl b))
  ·exact .inr (.inr (.inr (.inl b)))
  ·exact .inr (.inr (.inr (.inr b)))
 have c1:=q _ R;have c2:=q _ U;have c3:=q _ S;have c4:=q _ T;have a4:f.heap[(Y.K i).nd]?=some (.cells (kB (Y.K i) (V.nd i)).toArray 69 (0,0)):=L.row k.row (W _ (by omega));have a5:=aE f (Y.K i).nd 0 _ _ (pV t) a4;have a6:=j.row a5 (o _ (by omega) (by omega) (by omega));have a0:RP g (Y.K i).r (V.nd i).B false l false:=((e.rp.kept (S:=fun _=>False) (Kept.of_below e.b2) (fun a=>a)).kept B (X _ (by omega))).kept j (o _ (by omega) (by omega) (by omega));have a7:RJ g mm gn gs (Y.K i).r (au (V.nd i).B.data.toList) false:=(e.rj.kept B (z _ (by omega)) (z _ (by omega)) (z _ (by omega))).kept j (o _ (by omega) (by omega) (by omega)) (o _ (by omega) (by omega) (by omega)) (o _ (by omega) (by omega) (by omega));have a8:RSt g t mm gb (i:Int) (fun _=>false):=(e.rs.kept B (z _ (by omega)) (z _ (by omega))).kept j (o _ (by omega) (by omega) (by omega)) (o _ (by omega) (by omega) (by omega));have a9:=j.row (B.row (L.row k.lrow (W _ (by omega))) (X _ (by omega))) (o _ (by omega) (by omega) (by omega));have D:∀d,(V.nd i).ld d=none:=fun d=>RN.dark G Q d
 have b4:=G.sz;have b0:RN g J (oA (Y.K i) t mm gn gs gb) i zs.length cap aw (iT (V.nd i)):=by
  refine⟨?_,⟨false,l,false,a0,.inr (.inl ⟨rfl,rfl,rfl⟩)⟩,fun _=>⟨⟨a7,⟨false,l,false,a0,.inr (.inl ⟨rfl,rfl,rfl⟩)⟩,by show(Y.K i).r≠mm;omega,by show(Y.K i).r≠gn;omega,by show(Y.K i).r≠gs;omega,by show(V.nd i).B.size<=1000;omega,by show 216<=(V.nd i).B.size;omega⟩,a8⟩,?_,?_,fun d P a c=>?_,(r _ R).trans H,(r _ U).trans I,(r _ S).trans e3,(r _ T).trans e4,fun _=>⟨(p _ x.1).trans p1,(p _ x.2.1).trans p2,(p _ x.2.2.1).trans p3,(p _ x.2.2.2.1).trans p4,(p _ x.2.2.2.2).trans p5⟩,fun d P a c=>?_⟩
  ·show g.heap[(Y.K i).nd]?=_
   rw[a6];rfl
  ·show g.heap[(Y.K i).ls]?=_
   rw[a9];have b:∀d,dv (oA (Y.K i) t mm gn gs gb) (iT (V.nd i)) d=dv (Y.K i) (V.nd i) d:=fun d=>by
    rw[iu (D d),iu (show(iT (V.nd i)).ld d=none from D d)]
   simp only[b]
  ·have:=y.drow
   unfold VR at this ⊢;have u:∀d,d<6->el (fun d=>aT (stN (V.nd i) d).ph) (fun d=>(au (V.nd i).B.data.toList d).2.ph) 6 d=aT (stN (iT (V.nd i)) d).ph:=fun d P=>sC P (fun b=>b)
   show g.heap[(oA (Y.K i) t mm gn gs gb).dn]?=_;rw[this];simp only[u 0 (by omega),u 1 (by omega),u 2 (by omega),u 3 (by omega),u 4 (by omega),u 5 (by omega)]
  ·have A:(V.nd i).ld d=some a:=c
   rw[D d]at A;cases A
  ·have A:(V.nd i).ld d=some a:=c
   rw[D d]at A;cases A
 have hX:XI zs { aA V i (iT (V.nd i))with evs:=V.evs } m':=h.inv.node ((G.wake Q).mono F) F;refine⟨J,_,h.both (N:=iT (V.nd i)) (ev:=a2) (E:=V.evs) Z E (fun a c=>by omega) r (fun a c hc=>y.lt a hc) y.row y.evs y.ce b0 rfl F hX,kx rfl,Z.mono (fun a c=>by show C a<2000;omega),r⟩
end
section
variable {w0 w w1 w':World} {C C':Nat→Nat} {K:RB} {Y:YB} {aw:Option Addr} {i n cap m m':Nat} {zs:List Int} {N:PN} {V V':PX}
theorem abP(s:Int)(c:Nat)(h:RW w0 w C Y aw cap zs V m)(j:gi zs.length V s=c):Calls prog 26 #[.pointer (some ⟨Y.xb,0,none⟩),.int .i64 s] w fun e w'=>e=.returned (.int .i64 (c:Int))∧ROut w0 w w' C Y aw cap zs (if c=0 then upX V s.toNat else V) (m+1):=by
 have k:=hid h;obtain⟨-,x,-,-,-⟩:=h.cells;have n7:=h.n7
 by_cases b:0<=s∧s<zs.length
 ·obtain⟨a,rfl⟩:=bD b.1
  have o:a<zs.length:=by omega
  have cn:=h.ns a o;obtain⟨p,M,-,-⟩:=(h.nds a o).cells;have d:=hid o;have q:(if upN (V.nd a)=true then 8 else 0)=c:=by rw[<-j];unfold gi;rw[af b,aU]
  unfold rsV at p;obtain⟨f,y⟩:=nmd (zs.length);rw[y.out]at x o n7;have b2:¬((f:Int)<=(a:Int)):=by omega
  cases l:upN (V.nd a)with
  | true =>
   rw[l,af rfl]at q p;subst q;rw[aa (by decide)];clear h b j l
   go_enter func26,ntmps26
   go_wp2_with fail
   go_ret
   exact⟨rfl,k.out.out aF (aP _)⟩
  | false =>
   rw[l,aa (by decide)]at q p;subst q;have O:(V.nd a).l=-2:=by unfold upN at l;simpa using l
   have HL:=hid O;obtain⟨a1,z,a2,P,p2⟩:=(h.nds a d).pl;have a3:=hid (aeI (Y.K a).r (V.nd a).B a1 a2 z w P);have Q:=hid (h.inv.nd a d).sz;have R:=hid (And.intro (h.nds a d).cn (h.nds a d).cr);have a4:=hid (h.nds a d).row;clear h b j l O P p2
   go_enter func26,ntmps26
   go_wp2_with fail
   refine a3.mono ?_;rintro e w1 ⟨rfl,A,B⟩;have D:(Y.K a).nd≠(Y.K a).r:=fun e=>by have h1:=R.1;have h2:=R.2;rw[e]at h1;omega
   have a5:=jJ B M D;have a6:=hid D;have E:=hid B;have a7:=hid A;have a8:=hid (uc (Y.K a).r (V.nd a).B false false z (a:Int) w1 A (by have:=Q.out;omega) (by have:=Q.out;omega));clear A B M p cn x D
   go_wp2_with fail
   refine a8.mono ?_;rintro e r ⟨t,F,G,H,I,rfl,S,T,u,U,W,X,Z,t1,t2,t3,t4,q5,g1,g2,g3⟩;have HW:Hid (WkI w w1 r (Y.K a).r a (V.nd a).B z t F G H I):=⟨E,a7,S,T,u,⟨q5,U,W,X,Z⟩,⟨t1,t2,t3,t4⟩,⟨g1,g2,g3⟩⟩;have J:=(Kept.of_below (S:=fun _=>False) u).row (E.row a4 a6) (fun a9=>a9);have e0:r.cell? ⟨(Y.K a).nd,0,none⟩=some (rsV (Y.K a) (V.nd a)):=by rw[ai J];rfl
   have f0:r.frozen? ⟨(Y.K a).nd,0,none⟩=false:=dN J;obtain⟨v,L⟩:=nmd (r.setCell ⟨(Y.K a).nd,0,none⟩ (pV t));have b3:=L.out;have b0:Hid (Calls prog 91 #[pV Y.xb,iV (a:Int)] v fun e w'=>e=.returned (.tuple #[])∧NTo w0.heap.size v w' (ee C a t F G H I) Y (oA (Y.K a) t F G H I) aw cap zs.length a (el (fun g=>aT (stN (V.nd a) g).ph) (fun g=>(au (V.nd a).B.data.toList g).2.ph) 6) (au (V.nd a).B.data.toList) (cR V.evs a (fun g=>aT (stN (V.nd a) g).ph) (fun g=>(au (V.nd a).B.data.toList g).2.ph) 6)):=by
    rw[<-L.out];exact sU (k.wakeNT d HW) d (by have b4:=k.bel.size;have b5:=E.size;have b6:=u.size;show w0.heap.size<=_;simp;omega)
   clear S T u U W X Z t1 t2 t3 t4 q5 g1 g2 g3 a5 J
   go_wp2_with fail
   refine b0.mono ?_;rintro e w4 ⟨rfl,a0⟩;have b1:=hid a0;clear a0
   go_wp2_with fail
   go_ret
   refine⟨rfl,?_⟩;have:=b1.out;rw[<-L.out]at this;exact k.wakeOut d HL HW this (aP _)
 ·have e:c=2:=by rw[<-j];unfold gi;rw[aa b]
  subst e;rw[aa (by decide)];obtain⟨f,y⟩:=nmd (zs.length);rw[y.out]at x b
  by_cases s0:s<0
  ·clear h b j
   go_enter func26,ntmps26
   go_wp2_with fail
   go_ret
   exact⟨rfl,k.out.out aF (aP _)⟩
  ·have sz:(f:Int)<=s:=by omega
   clear h b j
   go_enter func26,ntmps26
   go_wp2_with fail
   go_ret
   exact⟨rfl,k.out.out aF (aP _)⟩
end
theorem oF{a b:YB}(h:eY b=eY a)(e:Nat):(b.K e).nd=(a.K e).nd:=congrFun (congrArg Prod.snd h) e
theorem nK{n r:Int}(h0:0<=r)(h1:r<n):r%n=r:=Int.emod_eq_of_lt h0 h1
theorem uR{n r:Int}(h0:n<=r)(h1:r<2*n):r%n=r-n:=by
 have:r=(r-n)+n*1:=by omega
 rw[this,Int.add_mul_emod_self_left,Int.emod_eq_of_lt (by omega) (by omega)];omega
def mX(n s:Nat)(a:Int):Int:=((s:Int)+n-a%n)%n
theorem age{n s:Nat}{a:Int}(b:0<n):0<=mX n s a∧mX n s a<n:=by
 unfold mX;exact⟨Int.emod_nonneg _ (by omega),Int.emod_lt_of_pos _ (by omega)⟩
theorem agu{n s:Nat}{a j:Int}(i:s<n)(h0:0<=j)(h1:j<=mX n s a):(a+j)%n=s ↔ j=mX n s a:=by
 have d:(0:Int)<n:=by omega
 have e:=Int.emod_nonneg a (show(n:Int)≠0 by omega);have f:=Int.emod_lt_of_pos a d;obtain⟨b,c⟩:∃b,a%n=b:=⟨_,rfl⟩;have g:(a+j)%n=(b+j)%n:=by
  have:a+j=(b+j)+n*(a / n):=by have:=Int.mul_ediv_add_emod a n;omega
  rw[this,Int.add_mul_emod_self_left]
 rw[g];rw[c]at e f;unfold mX at h1 ⊢;rw[c]at h1 ⊢
 by_cases k:b<=s
 ·rw[uR (n:=n) (r:=(s:Int)+n-b) (by omega) (by omega)]at h1 ⊢
  rw[nK (by omega) (by omega)];omega
 ·rw[nK (n:=n) (r:=(s:Int)+n-b) (by omega) (by omega)]at h1 ⊢
  by_cases h:b+j<n
  ·rw[nK (by omega) h];omega
  ·rw[uR (by omega) (by omega)];omega
theorem uj(n s:Nat)(a:Int):ci n s a=a+1+mX n s (a+1):=rfl
theorem ail{a n:Int}(h0:0<=a):a.tmod n=a%n:=Int.tmod_eq_emod_of_nonneg h0
section
variable {w0 w w1 w':World} {C C':Nat→Nat} {K:RB} {Y:YB} {aw:Option Addr} {i n cap m m':Nat} {zs:List Int} {N:PN} {V V':PX}
theorem RN.way(h:RN w C K i n cap aw N)(f:upN N=true){d:Nat}(o:d<6){h1 a b:Nat}(p:stN N d=⟨h1,a,b⟩):w.cell? ⟨K.nd,0,none⟩=some (.pointer (some ⟨K.t,0,none⟩))∧w.cell? ⟨K.t,1,none⟩=some (.pointer (some ⟨K.m,0,none⟩))∧(∃c,w.cell? ⟨K.m,2,none⟩=some (.slice (some ⟨K.gs,0,none⟩) 6 c))∧w.cell? ⟨K.gs,d*3,none⟩=some (.int .i64 (h1:Int))∧w.cell? ⟨K.gs,d*3+1,none⟩=some (.int .i64 (a:Int))∧w.cell? ⟨K.gs,d*3+2,none⟩=some (.int .i64 (b:Int)):=by
 obtain⟨e,-,-,-⟩:=h.cells;unfold rsV at e;rw[f,af rfl]at e;obtain⟨g,q⟩:=h.up f;obtain⟨t,c,-,-,r,-⟩:=g.cells;obtain⟨j,k,l,-⟩:=g.st o;have s:(dlN N d).2=⟨h1,a,b⟩:=p;rw[s]at j k l;exact⟨e,q.cells.2.1,⟨c,r⟩,j,k,l⟩
end
structure Dis9 (nd t mm gn gs gb r ls dn:Nat):Prop where
 d01:t≠nd
 d02:mm≠nd
 d12:mm≠t
 d03:gn≠nd
 d13:gn≠t
 d23:gn≠mm
 d04:gs≠nd
 d14:gs≠t
 d24:gs≠mm
 d34:gs≠gn
 d05:gb≠nd
 d15:gb≠t
 d25:gb≠mm
 d35:gb≠gn
 d45:gb≠gs
 d06:r≠nd
 d16:r≠t
 d26:r≠mm
 d36:r≠gn
 d46:r≠gs
 d56:r≠gb
 d07:ls≠nd
 d17:ls≠t
 d27:ls≠mm
 d37:ls≠gn
 d47:ls≠gs
 d57:ls≠gb
 d67:ls≠r
 d08:dn≠nd
 d18:dn≠t
 d28:dn≠mm
 d38:dn≠gn
 d48:dn≠gs
 d58:dn≠gb
 d68:dn≠r
 d78:dn≠ls
def du(C:Nat->Nat)(k nd t mm gn gs gb r ls dn:Nat):Nat->Nat:=fun x=>if x=nd then 100*k+1 else if x=t then 100*k+2 else if x=mm then 100*k+3 else if x=gn then 100*k+4 else if x=gs then 100*k+5 else if x=gb then 100*k+6 else if x=r then 100*k+7 else if x=ls then 100*k+8 else if x=dn then 100*k+9 else C x
section
variable {C:Nat→Nat} {k nd t mm gn gs gb r ls dn:Nat}
theorem ain(_h:Dis9 nd t mm gn gs gb r ls dn):du C k nd t mm gn gs gb r ls dn nd=100*k+1:=by
 unfold du;rw[af rfl]
theorem aip(h:Dis9 nd t mm gn gs gb r ls dn):du C k nd t mm gn gs gb r ls dn t=100*k+2:=by
 unfold du;rw[aa h.d01,af rfl]
theorem ahH(h:Dis9 nd t mm gn gs gb r ls dn):du C k nd t mm gn gs gb r ls dn mm=100*k+3:=by
 unfold du;rw[aa h.d02,aa h.d12,af rfl]
theorem ahI(h:Dis9 nd t mm gn gs gb r ls dn):du C k nd t mm gn gs gb r ls dn gn=100*k+4:=by
 unfold du;rw[aa h.d03,aa h.d13,aa h.d23,af rfl]
theorem aiD(h:Dis9 nd t mm gn gs gb r ls dn):du C k nd t mm gn gs gb r ls dn gs=100*k+5:=by
 unfold du;rw[aa h.d04,aa h.d14,aa h.d24,aa h.d34,af rfl]
theorem ahU(h:Dis9 nd t mm gn gs gb r ls dn):du C k nd t mm gn gs gb r ls dn gb=100*k+6:=by
 unfold du;rw[aa h.d05,aa h.d15,aa h.d25,aa h.d35,aa h.d45,af rfl]
theorem ahE(h:Dis9 nd t mm gn gs gb r ls dn):du C k nd t mm gn gs gb r ls dn r=100*k+7:=by
 unfold du;rw[aa h.d06,aa h.d16,aa h.d26,aa h.d36,aa h.d46,aa h.d56,af rfl]
theorem ahR(h:Dis9 nd t mm gn gs gb r ls dn):du C k nd t mm gn gs gb r ls dn ls=100*k+8:=by
 unfold du;rw[aa h.d07,aa h.d17,aa h.d27,aa h.d37,aa h.d47,aa h.d57,aa h.d67,af rfl]
theorem ahM(h:Dis9 nd t mm gn gs gb r ls dn):du C k nd t mm gn gs gb r ls dn dn=100*k+9:=by
 unfold du;rw[aa h.d08,aa h.d18,aa h.d28,aa h.d38,aa h.d48,aa h.d58,aa h.d68,aa h.d78,af rfl]
theorem adv{x b:Nat}(h:b<=nd∧b<=t∧b<=mm∧b<=gn∧b<=gs∧b<=gb∧b<=r∧b<=ls∧b<=dn)(a:x<b):du C k nd t mm gn gs gb r ls dn x=C x:=by
 unfold du;rw[aa (by omega),aa (by omega),aa (by omega),aa (by omega),aa (by omega),aa (by omega),aa (by omega),aa (by omega),aa (by omega)]
theorem ag5{x:Nat}(h:du C k nd t mm gn gs gb r ls dn x<2000):C x<2000∨x=nd∨x=t∨x=mm∨x=gn∨x=gs∨x=gb∨x=r∨x=ls∨x=dn:=by
 unfold du at h
 by_cases a:x=nd
 ·omega
 ·rw[aa a]at h
  by_cases b:x=t
  ·omega
  ·rw[aa b]at h
   by_cases c:x=mm
   ·omega
   ·rw[aa c]at h
    by_cases d:x=gn
    ·omega
    ·rw[aa d]at h
     by_cases e:x=gs
     ·omega
     ·rw[aa e]at h
      by_cases f:x=gb
      ·omega
      ·rw[aa f]at h
       by_cases g:x=r
       ·omega
       ·rw[aa g]at h
        by_cases i:x=ls
        ·omega
        ·rw[aa i]at h
         by_cases j:x=dn
         ·omega
         ·rw[aa j]at h
          exact .inl h
end
def gP(K:Nat->RB)(k:Nat):List Value:=(List.range k).map fun i=>.pointer (some ⟨(K i).nd,0,none⟩)
theorem yQ(K:Nat->RB)(k:Nat):gP K (k+1)=gP K k++[.pointer (some ⟨(K k).nd,0,none⟩)]:=by simp[gP,List.range_succ]
theorem aa2{K L:Nat->RB}{k:Nat}(h:∀i,i<k->(K i).nd=(L i).nd):gP K k=gP L k:=by
 unfold gP;refine List.map_congr_left fun i a=>?_
 rw[h i (List.mem_range.1 a)]
theorem Tryz.infoPRN:(prog.info? 63).map (fun i=>(i.zero,i.size,i.bytes))=some (some (.pointer none),1,8):=by kernel_rfl
structure RWN (w0 w:World) (C:Nat->Nat) (xb:Nat) (nv:Value) (K:Nat->RB) (aw:Option Addr) (cap:Nat) (zs:List Int) (k:Nat):Prop where
 bel:Below w0.heap.size w0 w
 row:w.heap[xb]?=some (.cells #[.slice aw zs.length cap,nv,.slice none 0 0,.slice none 0 0,.slice none 0 0] 58 (0,0))
 ns:w.ownsRow w0.heap.size 63 1 nv k (gP K k)
 nds:∀i,i<k->RN w C (K i) i zs.length cap aw (jc 512)
 cx:C xb=1001
 cn:∀g,nv.ownBlock=some g->C g=1003
 lt:∀x,C x<2000->x<w.heap.size
 low:∀x,C x<2000->w0.heap.size<=x
structure RNew (w:World) (k nd t mm gn gs gb r ls dn:Nat):Prop where
 row:w.heap[nd]?=some (.cells #[.pointer (some ⟨t,0,none⟩),.pointer (some ⟨r,0,none⟩),.slice (some ⟨ls,0,none⟩) 6 6,.slice (some ⟨dn,0,none⟩) 6 6] 69 (0,0))
 rp:RP w r (bQ 512) false 0 false
 rj:RJ w mm gn gs r (au (bQ 512).data.toList) false
 rs:RSt w t mm gb (k:Int) (fun _=>false)
 lr:w.heap[ls]?=some (.cells #[.pointer none,.pointer none,.pointer none,.pointer none,.pointer none,.pointer none] 111 (0,0))
 dr:VR w dn (fun _=>false)
def qx(nd t mm gn gs gb r ls dn:Nat):RB:=⟨nd,t,mm,gn,gs,gb,r,ls,dn,fun _=>0,fun _=>.slice none 0 0⟩
def oD(K:Nat->RB)(k:Nat)(x:RB):Nat->RB:=fun e=>if e=k then x else K e
section
variable {w0 w W4 w5:World} {C C':Nat→Nat} {xb k cap:Nat} {aw:Option Addr} {nv nv':Value} {K:Nat→RB} {zs:List Int} {nd t mm gn gs gb r ls dn:Nat}
theorem jh(d:Nat)(a:d<6):aT (stN (jc 512) d).ph=false:=by
 show aT (au (bQ 512).data.toList d).2.ph=false;rw[iA 512 d (by omega)];rfl
theorem RNew.rn(h:RNew w k nd t mm gn gs gb r ls dn)(c:Dis9 nd t mm gn gs gb r ls dn)(n:Nat):RN w (du C k nd t mm gn gs gb r ls dn) (qx nd t mm gn gs gb r ls dn) k n cap aw (jc 512):=by
 have f:(bQ 512).size=512:=dk 512;have g:∀a,a=r->True:=fun _ _=>trivial
 refine⟨h.row,⟨false,0,false,h.rp,.inr (.inl ⟨rfl,rfl,rfl⟩)⟩,fun _=>⟨⟨h.rj,⟨false,0,false,h.rp,.inr (.inl ⟨rfl,rfl,rfl⟩)⟩,c.d26,c.d36,c.d46,by show(bQ 512).size<=1000;omega,by show 216<=(bQ 512).size;omega⟩,h.rs⟩,h.lr,?_,fun d e a b=>(by cases b),ain c,ahE c,ahR c,ahM c,fun _=>⟨aip c,ahH c,ahI c,aiD c,ahU c⟩,fun d e a b=>(by cases b)⟩;have:=h.dr;unfold VR at this ⊢;show w.heap[dn]?=_;rw[this];simp only[jh 0 (by omega),jh 1 (by omega),jh 2 (by omega),jh 3 (by omega),jh 4 (by omega),jh 5 (by omega)]
theorem RWN.add(h:RWN w0 w C xb nv K aw cap zs k)(Y:k<7)(n:Below w.heap.size w W4)(s:RNew W4 k nd t mm gn gs gb r ls dn)(c:Dis9 nd t mm gn gs gb r ls dn)(J:w.heap.size<=nd∧w.heap.size<=t∧w.heap.size<=mm∧w.heap.size<=gn∧w.heap.size<=gs∧w.heap.size<=gb∧w.heap.size<=r∧w.heap.size<=ls∧w.heap.size<=dn)(Z:nd<W4.heap.size∧t<W4.heap.size∧mm<W4.heap.size∧gn<W4.heap.size∧gs<W4.heap.size∧gb<W4.heap.size∧r<W4.heap.size∧ls<W4.heap.size∧dn<W4.heap.size)(z:w5.ownsRow w0.heap.size 63 1 nv' (k+1) (gP K k++[.pointer (some ⟨nd,0,none⟩)]))(u:W4.grownBy w5 nv.ownBlock)(L:nv'.ownBlock=nv.ownBlock∨nv'.ownBlock=some W4.heap.size):∃C' M,RWN w0 (w5.setCell ⟨xb,1,none⟩ nv') C' xb nv' M aw cap zs (k+1):=by
 have A:=h.bel.size;have N:=n.size;have v:∀a,a<w.heap.size->du C k nd t mm gn gs gb r ls dn a=C a:=fun a b=>adv J b
 have B:∀a,du C k nd t mm gn gs gb r ls dn a<2000->(a<w.heap.size∧C a<2000)∨(w.heap.size<=a∧a<W4.heap.size):=fun a b=>by
  rcases ag5 b with f|f|f|f|f|f|f|f|f|f
  ·exact .inl ⟨h.lt a f,f⟩
  all_goals(right;omega)
 have o:∀a,du C k nd t mm gn gs gb r ls dn a<2000->a<W4.heap.size:=fun a b=>by rcases B a b with f|f<;>omega
 have x:∀a,du C k nd t mm gn gs gb r ls dn a<2000->w0.heap.size<=a:=fun a b=>by
  rcases B a b with f|f
  ·exact h.low a f.2
  ·omega
 have D:=bZ u;have O:=h.cx;have E:du C k nd t mm gn gs gb r ls dn xb=1001:=(v xb (h.lt xb (by omega))).trans O;have y:∀d,nv.ownBlock=some d->du C k nd t mm gn gs gb r ls dn d=1003:=fun d j=>by
  have:=h.cn d j;exact(v d (h.lt d (by omega))).trans this
 obtain⟨i,p,P,Q,F⟩:∃i:Nat->Nat,(∀a,a<W4.heap.size->i a=du C k nd t mm gn gs gb r ls dn a)∧(∀a,i a<2000->a<w5.heap.size)∧(∀a,i a<2000->w0.heap.size<=a)∧∀d,nv'.ownBlock=some d->i d=1003:=by
  rcases L with q|q
  ·exact⟨du C k nd t mm gn gs gb r ls dn,fun _ _=>rfl,fun a b=>bm (o a b) u.size,x,fun d j=>y d (by rw[<-q];exact j)⟩
  ·have R:W4.heap.size<w5.heap.size:=kt z q
   refine⟨bV (du C k nd t mm gn gs gb r ls dn) W4.heap.size 1003,fun a b=>aq (by omega),fun a b=>?_,fun a b=>?_,fun d j=>?_⟩
   ·by_cases e:a=W4.heap.size
    ·rw[e];exact R
    ·rw[aq e]at b;exact bm (o a b) u.size
   ·by_cases e:a=W4.heap.size
    ·rw[e];omega
    ·rw[aq e]at b;exact x a b
   ·rw[q]at j
    obtain rfl:=bF j;exact bw _ _ _
 have l:Kept (fun a=>nv.ownBlock=some a∨a=xb) W4 (w5.setCell ⟨xb,1,none⟩ nv'):=(D.mono (fun a b=>.inl b)).setCell (.inr rfl) _;have G:∀a,(nv.ownBlock=some a∨a=xb)->du C k nd t mm gn gs gb r ls dn a=1003∨du C k nd t mm gn gs gb r ls dn a=1001:=fun a b=>by
  rcases b with b|rfl
  ·exact .inl (y a b)
  ·exact .inr E
 have S:∀a,(nv.ownBlock=some a∨a=xb)->w0.heap.size<=a:=fun a b=>x a (by rcases G a b with d|d<;>omega)
 have H:∀(a:RB) (e:Nat),e<=9->RN W4 (du C k nd t mm gn gs gb r ls dn) a e zs.length cap aw (jc 512)->RN (w5.setCell ⟨xb,1,none⟩ nv') i a e zs.length cap aw (jc 512):=fun a e T b=>by
  have:=b.col (C':=i) p;refine this.kept (S:=fun g=>(nv.ownBlock=some g∨g=xb)∧g<W4.heap.size) ⟨l.os,l.tape,l.output,l.size,fun g m s=>l.block g m (fun f=>s ⟨f,m⟩)⟩ (fun g m I=>?_);rcases G g I.1 with d|d<;>(rw[p g I.2]at m;omega)
 refine⟨i,oD K k (qx nd t mm gn gs gb r ls dn),⟨l.below (bc A N) S (h.bel.trans (n.mono A)),?_,?_,fun e T=>?_,?_,F,fun a b=>?_,Q⟩⟩
 ·have U:W4.heap[xb]?=_:=(n.block _ (ah h.row)).trans h.row
  have V:=D.row U (fun e=>by have:=y _ e;omega);rw[aE w5 xb 1 _ _ _ V];rfl
 ·have W:gP (oD K k (qx nd t mm gn gs gb r ls dn)) (k+1)=gP K k++[pV nd]:=by
   rw[yQ,aa2 (L:=K) (fun a0 hi=>by unfold oD;rw[aa (by omega)])];unfold oD qx;rw[af rfl]
  rw[W];refine aV z ((Kept.refl (In1 xb) w5).set1 1 nv') (fun g m e=>?_);have X:=F g m;rw[show g=xb from e,p _ (o xb (by omega))]at X;omega
 ·by_cases d:e=k
  ·subst d
   have:=H _ e (by omega) (s.rn (C:=C) (aw:=aw) (cap:=cap) c zs.length);unfold oD;rw[af rfl];exact this
  ·have:=H _ e (by omega) (((h.nds e (by omega)).col (C':=du C k nd t mm gn gs gb r ls dn) v).later n)
   unfold oD;rw[aa d];exact this
 ·exact(p _ (o xb (by omega))).trans E
 ·have:=P a b
  simpa using this
theorem RWN.done(h:RWN w0 w C xb nv K aw cap zs zs.length)(c:bT zs=0)(i:IsSl w0 (.slice aw zs.length cap) zs):∃d,d.xb=xb∧RW w0 w C d aw cap zs dM 0:=by
 have s:=(bp c).1;rcases h.ns.2 with⟨-,u⟩|⟨e,j,v,l,x,y,z,A,B,D⟩
 ·omega
 ·subst l
  refine⟨⟨xb,e,j,.slice none 0 0,.slice none 0 0,.slice none 0 0,K⟩,rfl,⟨h.bel,h.row,i,fun f m=>?_,h.nds,⟨[],World.ownsRow_nil _ _ _ _,⟨fun n o _ _ _=>?_,fun E p=>(by cases p)⟩,Nat.zero_le _⟩,World.ownsRow_nil _ _ _ _,World.ownsRow_nil _ _ _ _,h.cx,h.cn e rfl,fun g a=>(by cases a),fun g a=>(by cases a),fun g a=>(by cases a),h.lt,h.low,⟨c,fun f _=>xF _,fun F q=>(by cases q),Nat.zero_le _,Nat.zero_le _⟩⟩⟩
  ·have:=h.ns.cellAt f (by omega)
   rw[this];unfold gP;rw[List.getElem?_map,List.getElem?_range m];rfl
  ·constructor
   ·intro b
    have:brX dM n o=false:=rfl;rw[this]at b;cases b
   ·rintro(b|b)<;>cases b
end
end Go.Proofs.YtaehdgemkafinaaGreatDoor
