/-
  On the way to SPlaysProof: XX.
-/
import Derived.Test.YtaehdgemkafinaaGreatDoorBx37
set_option maxHeartbeats 8000000
set_option maxRecDepth 100000
namespace Go.Proofs.YtaehdgemkafinaaGreatDoor
open Go.RowKit
open Go.Proofs.Tryz
section
variable {w0 w w1 w':World} {C C':Nat→Nat} {K:RB} {Y:YB} {aw:Option Addr} {i n cap m m':Nat} {zs:List Int} {N:PN} {V V':PX}
theorem pn(j:Nat)(F:F9)(h:RW w0 w C Y aw cap zs V m)(hj:j<V.fly.length)(hF:V.fly[j]'hj=F)(hm:m<1000000):Calls prog 27 #[.pointer (some ⟨Y.xb,0,none⟩),.int .i64 (j:Int)] w fun e w'=>e=.returned (.int .i64 0)∧ROut w0 w w' C Y aw cap zs (aX zs V j F) (m+3):=by
 have b5:=hid (h.inv.fr F (by rw[<-hF];exact List.getElem_mem _));obtain⟨v,i,a,t,o,ph,pr,pa,e0,hf,hi,hd⟩:=b5.out.nat;obtain⟨R,hy⟩:∃R,F.y=R:=⟨_,rfl⟩;rw[hy]at e0;have a2:=hid e0;have i0:=hid h;have n7:=h.n7.2;have HT:=hid (vA j F h hj hF (by omega));rw[e0]at HT;simp only[frN]at HT;have i1:=hid hf;have b2:=hid hi;clear h e0 hF hj
 go_enter func27,ntmps27
 go_wp2_with fail
 refine HT.out.mono ?_;rintro e w1 ⟨rfl,C1,f,g1,g2,g3,g4⟩;obtain⟨W3,b8⟩:=nmd (w1.alloc (.cells #[.int .i64 (v:Int),.int .i64 (i:Int),.int .i64 (a:Int),.int .i64 (t:Int),.int .i64 (o:Int),.bool R,.int .i64 (ph:Int),.int .i64 (pr:Int),.int .i64 (pa:Int)] 125));have d4:Hid (Below w1.heap.size w1 W3):=by rw[<-b8.out];exact aD
 have d5:Hid (W3.heap[w1.heap.size]?=some (.cells #[.int .i64 (v:Int),.int .i64 (i:Int),.int .i64 (a:Int),.int .i64 (t:Int),.int .i64 (o:Int),.bool R,.int .i64 (ph:Int),.int .i64 (pr:Int),.int .i64 (pa:Int)] 125 (0,0))):=by rw[<-b8.out];exact aB w1 _
 have f9:=b8.out;have c0:Hid (2000<=C1 w1.heap.size):=by
  rcases bU (C1 w1.heap.size) 2000 with r|r
  ·have:=g1.lt _ r;omega
  ·exact r
 have HG:=hid (And.intro (g1.later d4.out) g2);have g0:Hid (Kept (di C) w W3):=g3.trans (Kept.of_below d4.out);have a4:Hid (∀b,b<w.heap.size->C1 b=C b):=g4;have b6:Hid (f.xb=Y.xb):=fH g2;clear g1 g2 g3 g4;obtain⟨B,D,E,G,H,I,J,L,M⟩:=bH d5.out;obtain⟨-,c1,-,-,-⟩:=HG.out.1.cells;rw[b6.out]at c1;have c2:=HG.out.1.ns i hi;obtain⟨d6,hz⟩:=nmd (zs.length);have HZ:=hid n7;rw[hz.out]at c1 hf hi n7;have g6:=b8.out
 go_wp2_with fail
 go_quiet (fail)
 rename_i nq
 obtain⟨p,c3⟩:=nmd (W3.drewN nq);have d7:Hid (Below W3.heap.size W3 p):=by rw[<-c3.out];exact aJ aF nq
 have d8:=c3.out;rw[d8];clear d8 B D E G H I J L M c1 c2 f9 g6;have d9:Hid (p.heap[w1.heap.size]?=some (.cells #[.int .i64 (v:Int),.int .i64 (i:Int),.int .i64 (a:Int),.int .i64 (t:Int),.int .i64 (o:Int),.bool R,.int .i64 (ph:Int),.int .i64 (pr:Int),.int .i64 (pa:Int)] 125 (0,0))):=by rw[<-c3.out];exact d5.out
 have y:=hid (HG.out.1.later d7.out);obtain⟨B,D,E,G,H,I,J,L,M⟩:=bH d9.out;have S:=hid (y.out.nds i b2.out);obtain⟨d0,-,T,-⟩:=S.out.cells;have O:=S.out.lead hd;have e3:=hid (aar v i y.out (by omega) (by omega) (by omega));obtain⟨r,HQ⟩:=nmd ((!(decide (v=i) || !brX (ay V j) v i)))
 rw[HQ.out,b6.out]at e3;obtain⟨z,HU⟩:=nmd (upN (V.nd i));have c4:Hid (upN ((ay V j).nd i)=z):=HU.out;have g7:Hid (gV (ay V j) F=(z && !r)):=by
  rw[a2.out];unfold gV;rw[<-HQ.out,<-HU.out,Bool.not_not];show(upN ((ay V j).nd ((i:Int)).toNat)&&(((v:Int)==(i:Int)) || !brX (ay V j) ((v:Int)).toNat ((i:Int)).toNat))=_
  rw[aU,aU];have:((v:Int)==(i:Int))=decide (v=i):=by
   by_cases e:v=i
   ·subst e;simp
   ·rw[aS e];exact beq_eq_false_iff_ne.2 (by omega)
  rw[this];rfl
 have a3:Hid (aX zs V j F=if(z && !r)=true then aW (de zs (ay V j) F) (cX zs (ay V j) F)else ay V j):=by
  unfold aX;rw[<-g7.out];exact rfl
 have a5:Hid (Kept (di C) w p):=g0.out.trans (Kept.of_below d7.out);have a6:Hid (eY f=eY Y):=HG.out.2;unfold rsV at d0;rw[c4.out]at d0
 go_wp2_with fail
 refine e3.out.mono ?_;rintro e w5 ⟨rfl,i2⟩;subst w5
 cases z with
 | false =>
  rw[aa (by decide)]at d0
  go_wp2_with fail
  go_ret
  refine⟨rfl,?_⟩;rw[a3.out,aa (by simp)];exact⟨C1,f,y.out.mono (by omega),a6.out,a5.out,a4.out⟩
 | true =>
  rw[af rfl]at d0
  cases r with
  | true =>
   go_wp2_with fail
   go_ret
   refine⟨rfl,?_⟩;rw[a3.out,aa (by simp)];exact⟨C1,f,y.out.mono (by omega),a6.out,a5.out,a4.out⟩
  | false =>
   rw[af (by simp)]at a3;have i3:Hid (∀b,C1 b<2000->b≠w1.heap.size):=fun b hx e=>by have:=c0.out;rw[e]at hx;omega
   by_cases c5:t=2∨t=4∨t=6
   ·have U:Hid (de zs (ay V j) F=dH zs (ay V j) i a F∧cX zs (ay V j) F=dq zs (ay V j) i a F):=by
     have e1:fO F.k=true:=by rw[a2.out];unfold fO;show decide ((t:Int)=2∨(t:Int)=4∨(t:Int)=6)=true;exact bo (by omega)
     have e2:F.t.toNat=i:=by rw[a2.out];exact aU i
     have g8:F.d.toNat=a:=by rw[a2.out];exact aU a
     unfold de cX;rw[af e1,af e1,e2,g8];exact⟨rfl,rfl⟩
    cases hx:(V.nd i).ld a with
    | none =>
     rw[iu (show((ay V j).nd i).ld a=none from hx)]at O;have HX:Hid (aW (de zs (ay V j) F) (cX zs (ay V j) F)=ay V j):=by
      obtain⟨x1,x2⟩:=aed (zs:=zs) (F:=F) (show((ay V j).nd i).ld a=none from hx);rw[U.out.1,U.out.2,x1,x2];exact iE
     clear hx;rcases c5 with rfl|rfl|rfl
     all_goals
      go_wp2_with fail
      go_quiet (fail)
      rename Nat=>nq2
      have c:Hid (Below p.heap.size p (p.drewN nq2)):=aJ aF nq2
      go_wp2_with fail
      go_ret
      refine⟨rfl,?_⟩;rw[a3.out,HX.out];exact⟨C1,f,(y.out.later c.out).mono (by omega),a6.out,a5.out.trans (Kept.of_below c.out),a4.out⟩
    | some b =>
     have a7:((ay V j).nd i).ld a=some b:=hx;rw[gz a7]at O;have HX:=hid a7;obtain⟨vb,vo,rfl,e4,e5⟩:=y.out.weights;have g9:=hid e5;have e6:=hid e4;obtain⟨h0,c6,e7⟩:=S.out.lds a hd b a7;obtain⟨e8,e9⟩:=S.out.ce a hd b a7;have b9:=hid (And.intro e8 e9);have h2:=hid c6;have h3:=hid e7;have f0:=hid ((y.out.inv.nd i b2.out).ld a b a7);have c7:Hid (aW (de zs (ay V j) F) (cX zs (ay V j) F)=aW (aA (ay V j) i (aC ((ay V j).nd i) a (b.1,(aL zs i a b.1 b.2 F).1))) (dm i a b.1 zs.length (aL zs i a b.1 b.2 F).2)):=by
      obtain⟨x1,x2⟩:=vI (zs:=zs) (F:=F) a7;rw[U.out.1,U.out.2,x1,x2];exact rfl
     have HH:Hid (∀kv:Int,(t:Int)=kv->∀W,Below p.heap.size p W->Calls prog 88 #[.pointer (some ⟨(f.K i).lb a,0,none⟩),frV (v:Int) (i:Int) (a:Int) kv (o:Int) R (ph:Int) (pr:Int) (pa:Int)] W fun e w'=>∃x P s,e=.returned x∧IsFr w' x (dm i a b.1 zs.length (aL zs i a b.1 b.2 F).2)∧Rel zs.length b.1 (aL zs i a b.1 b.2 F).1 s∧RLd w' ((f.K i).lb a) i zs.length cap (a:Int) b.1 (some ⟨vb,vo,none⟩) (stB s.stt) s.wait P s.hs s.ph s.seen∧Kept (InH ((f.K i).lb a) ((f.K i).vh a)) W w'∧∀b3,P.ownBlock=some b3->((f.K i).vh a).ownBlock=some b3∨W.heap.size<=b3):=by
      rintro _ rfl W hb;have f1:=y.out.low;have:=rk (w:=W) (zs:=zs) (lb:=(f.K i).lb a) (id:=i) (cap:=cap) (vb:=vb) (vo:=vo) (deal:=a) (att:=b.1) (vh:=(f.K i).vh a) (P:=b.2) (L:=h0) F (h3.out.later hb) h2.out f0.out.2.1.1 (fun _=>by have:=b5.out.ok.2.2.2.2.2.2.1;omega) y.out.inv.he (fun r hq=>ag hb (g9.out r hq)) (fun e=>by have h5:=f1 ((f.K i).lb a) (by have:=b9.out.1;omega);have:=e6.out;omega) (fun e=>by have i4:=b9.out.2 _ e;have h5:=f1 vb (by omega);have:=e6.out;omega);rw[a2.out]at this ⊢;exact this
     have l:Hid (∀W w',Kept (InH ((f.K i).lb a) ((f.K i).vh a)) W w'->∀o z,W.cell? o=some z->(o.block=(f.K i).nd∨o.block=(f.K i).ls∨o.block=w1.heap.size)->w'.cell? o=some z):=by
      intro W w' hk o z hc ha;refine bG hk hc (fun r=>?_);have c1:=S.out.cn;have c2:=S.out.cl;have h4:=c0.out;rcases r with r|r
      ·have:=b9.out.1
       rw[r]at ha;rcases ha with e|e|e<;>(rw[e]at this;omega)
      ·have:=b9.out.2 _ r
       rcases ha with e|e|e<;>(rw[e]at this;omega)
     have h6:=hid (((y.out.inv.nd i b2.out).hears (i:=i) (d:=a) (F:=F) a7 c6 HZ.out b5.out));have h7:=hid (lV (zs:=zs) (id:=i) (d:=a) (att:=b.1) (P:=b.2) (f:=F) b2.out HZ.out hd f0.out.2.1);have h8:Hid ((dm i a b.1 zs.length (aL zs i a b.1 b.2 F).2).length<=1000):=bc (me _ _ _ _ _) (by have:=HZ.out;omega);have c8:Hid (∀q u x P s,Below p.heap.size p q->IsFr u x (dm i a b.1 zs.length (aL zs i a b.1 b.2 F).2)->Rel zs.length b.1 (aL zs i a b.1 b.2 F).1 s->RLd u ((f.K i).lb a) i zs.length cap (a:Int) b.1 (some ⟨vb,vo,none⟩) (stB s.stt) s.wait P s.hs s.ph s.seen->Kept (InH ((f.K i).lb a) ((f.K i).vh a)) q.drew u->(∀b3,P.ownBlock=some b3->((f.K i).vh a).ownBlock=some b3∨q.drew.heap.size<=b3) ->
       ∃Q Y6,(eY Y6=eY f∧Kept (di C1) q.drew u∧∀b,b<q.drew.heap.size->Q b=C1 b)∧(Calls prog 83 #[.pointer (some ⟨Y.xb,0,none⟩),x] u fun e w'=>e=.returned (.tuple #[])∧ROut w0 u w' Q Y6 (some ⟨vb,vo,none⟩) cap zs (aW (aA (ay V j) i (aC ((ay V j).nd i) a (b.1,(aL zs i a b.1 b.2 F).1))) (dm i a b.1 zs.length (aL zs i a b.1 b.2 F).2)) (m+1)∧Kept (fun b=>Q b=1001∨Q b=1005) u w')∧(∀w',Kept (fun b=>Q b=1001∨Q b=1005) u w'->∀o z,u.cell? o=some z->(o.block=(f.K i).nd∨o.block=(f.K i).ls∨o.block=w1.heap.size)->w'.cell? o=some z)):=by
      intro q u x P s f2 X Z a0 d a1;have H5:=y.out.later f2.drew;obtain⟨Q,Y6,x1,x2,x3,x4⟩:=H5.leadOut b2.out hd HX.out d Z a0 a1 aj h6.out;have f3:=qf x _ x1 X h7.out h8.out (by omega);rw[fH x2,b6.out]at f3;refine⟨Q,Y6,⟨x2,x3,x4⟩,f3,fun w' hk o z hc ha=>bG hk hc (fun r=>?_)⟩;have c1:=S.out.cn;have c2:=S.out.cl;have h4:=c0.out;have z1:=ah S.out.row;have z2:=ah S.out.lrow;have z3:=ah d9.out;have z4:p.heap.size<=q.drew.heap.size:=f2.drew.size;have y1:=x4 (f.K i).nd (by omega);have y2:=x4 (f.K i).ls (by omega);have y3:=x4 w1.heap.size (by omega);rcases ha with e|e|e<;>(rw[e]at r;omega)
     clear hx a7 e4 e5 c6 e7 e8 e9;rcases c5 with rfl|rfl|rfl
     ·go_wp2_with fail
      go_quiet (fail)
      rename Nat=>nq2
      obtain⟨q,a8⟩:=nmd (p.drewN nq2);have c:Hid (Below p.heap.size p q):=by rw[<-a8.out];exact aJ aF nq2
      have a9:=a8.out;rw[a9];clear a9;have B:=ag c.out B;have D:=ag c.out D;have E:=ag c.out E;have G:=ag c.out G;have H:=ag c.out H;have I:=ag c.out I;have J:=ag c.out J;have L:=ag c.out L;have M:=ag c.out M;have T:=ag c.out T;have O:=ag c.out O
      go_wp2_with fail
      have f4:(0:Int)<=(a:Int):=by omega
      have f5:(a:Int)<6:=by omega
      have f6:¬((a:Int)<0):=by omega
      go_region_held3 (fun V=>V.cell? ⟨(f.K i).nd,2,none⟩=some (.slice (some ⟨(f.K i).ls,0,none⟩) 6 6)∧V.cell? ⟨(f.K i).ls,a,none⟩=some (.pointer (some ⟨(f.K i).lb a,0,none⟩))∧V.cell? ⟨w1.heap.size,0,none⟩=some (.int .i64 (v:Int))∧V.cell? ⟨w1.heap.size,1,none⟩=some (.int .i64 (i:Int))∧V.cell? ⟨w1.heap.size,2,none⟩=some (.int .i64 (a:Int))∧V.cell? ⟨w1.heap.size,3,none⟩=some (.int .i64 ((2:Nat):Int))∧V.cell? ⟨w1.heap.size,4,none⟩=some (.int .i64 (o:Int))∧V.cell? ⟨w1.heap.size,5,none⟩=some (.bool R)∧V.cell? ⟨w1.heap.size,6,none⟩=some (.int .i64 (ph:Int))∧V.cell? ⟨w1.heap.size,7,none⟩=some (.int .i64 (pr:Int))∧V.cell? ⟨w1.heap.size,8,none⟩=some (.int .i64 (pa:Int))) (go_keep) (first|(go_at_call 88;(with_reducible refine(HH.out 2 rfl _ c.out.drew).mono ?_);rintro e u ⟨x,P,s,rfl,X,Z,a0,d,a1⟩;have q0:=l.out _ _ d _ _ T (.inl rfl);have q1:=l.out _ _ d _ _ O (.inr (.inl rfl));have p0:=l.out _ _ d _ _ B (.inr (.inr rfl));have p1:=l.out _ _ d _ _ D (.inr (.inr rfl));have p2:=l.out _ _ d _ _ E (.inr (.inr rfl));have p3:=l.out _ _ d _ _ G (.inr (.inr rfl));have p4:=l.out _ _ d _ _ H (.inr (.inr rfl));have p5:=l.out _ _ d _ _ I (.inr (.inr rfl));have p6:=l.out _ _ d _ _ J (.inr (.inr rfl));have p7:=l.out _ _ d _ _ L (.inr (.inr rfl));have p8:=l.out _ _ d _ _ M (.inr (.inr rfl));obtain⟨Q,Y6,A,b0,k⟩:=c8.out q u x P s c.out X Z a0 d a1;clear X Z a0 d a1)|(go_at_call 83;(with_reducible refine b0.mono ?_);rintro e w7 ⟨rfl,b1,g⟩;have r0:=k _ g _ _ q0 (.inl rfl);have r1:=k _ g _ _ q1 (.inr (.inl rfl));have s0:=k _ g _ _ p0 (.inr (.inr rfl));have s1:=k _ g _ _ p1 (.inr (.inr rfl));have s2:=k _ g _ _ p2 (.inr (.inr rfl));have s3:=k _ g _ _ p3 (.inr (.inr rfl));have s4:=k _ g _ _ p4 (.inr (.inr rfl));have s5:=k _ g _ _ p5 (.inr (.inr rfl));have s6:=k _ g _ _ p6 (.inr (.inr rfl));have s7:=k _ g _ _ p7 (.inr (.inr rfl));have s8:=k _ g _ _ p8 (.inr (.inr rfl));have b7:=hid b1;clear b1 g))
      go_wp2_with fail
      go_ret
      refine⟨rfl,?_⟩;rw[a3.out,c7.out];refine ROut.step a6.out (a5.out.trans (Kept.of_below c.out.drew)) a4.out ?_;exact(ROut.step A.1 A.2.1 A.2.2 b7.out).mono (by omega)
     ·go_wp2_with fail
      go_quiet (fail)
      rename Nat=>nq2
      obtain⟨q,a8⟩:=nmd (p.drewN nq2);have c:Hid (Below p.heap.size p q):=by rw[<-a8.out];exact aJ aF nq2
      have a9:=a8.out;rw[a9];clear a9;have B:=ag c.out B;have D:=ag c.out D;have E:=ag c.out E;have G:=ag c.out G;have H:=ag c.out H;have I:=ag c.out I;have J:=ag c.out J;have L:=ag c.out L;have M:=ag c.out M;have T:=ag c.out T;have O:=ag c.out O
      go_wp2_with fail
      have f4:(0:Int)<=(a:Int):=by omega
      have f5:(a:Int)<6:=by omega
      have f6:¬((a:Int)<0):=by omega
      go_region_held3 (fun V=>V.cell? ⟨(f.K i).nd,2,none⟩=some (.slice (some ⟨(f.K i).ls,0,none⟩) 6 6)∧V.cell? ⟨(f.K i).ls,a,none⟩=some (.pointer (some ⟨(f.K i).lb a,0,none⟩))∧V.cell? ⟨w1.heap.size,0,none⟩=some (.int .i64 (v:Int))∧V.cell? ⟨w1.heap.size,1,none⟩=some (.int .i64 (i:Int))∧V.cell? ⟨w1.heap.size,2,none⟩=some (.int .i64 (a:Int))∧V.cell? ⟨w1.heap.size,3,none⟩=some (.int .i64 ((4:Nat):Int))∧V.cell? ⟨w1.heap.size,4,none⟩=some (.int .i64 (o:Int))∧V.cell? ⟨w1.heap.size,5,none⟩=some (.bool R)∧V.cell? ⟨w1.heap.size,6,none⟩=some (.int .i64 (ph:Int))∧V.cell? ⟨w1.heap.size,7,none⟩=some (.int .i64 (pr:Int))∧V.cell? ⟨w1.heap.size,8,none⟩=some (.int .i64 (pa:Int))) (go_keep) (first|(go_at_call 88;(with_reducible refine(HH.out 4 rfl _ c.out.drew).mono ?_);rintro e u ⟨x,P,s,rfl,X,Z,a0,d,a1⟩;have q0:=l.out _ _ d _ _ T (.inl rfl);have q1:=l.out _ _ d _ _ O (.inr (.inl rfl));have p0:=l.out _ _ d _ _ B (.inr (.inr rfl));have p1:=l.out _ _ d _ _ D (.inr (.inr rfl));have p2:=l.out _ _ d _ _ E (.inr (.inr rfl));have p3:=l.out _ _ d _ _ G (.inr (.inr rfl));have p4:=l.out _ _ d _ _ H (.inr (.inr rfl));have p5:=l.out _ _ d _ _ I (.inr (.inr rfl));have p6:=l.out _ _ d _ _ J (.inr (.inr rfl));have p7:=l.out _ _ d _ _ L (.inr (.inr rfl));have p8:=l.out _ _ d _ _ M (.inr (.inr rfl));obtain⟨Q,Y6,A,b0,k⟩:=c8.out q u x P s c.out X Z a0 d a1;clear X Z a0 d a1)|(go_at_call 83;(with_reducible refine b0.mono ?_);rintro e w7 ⟨rfl,b1,g⟩;have r0:=k _ g _ _ q0 (.inl rfl);have r1:=k _ g _ _ q1 (.inr (.inl rfl));have s0:=k _ g _ _ p0 (.inr (.inr rfl));have s1:=k _ g _ _ p1 (.inr (.inr rfl));have s2:=k _ g _ _ p2 (.inr (.inr rfl));have s3:=k _ g _ _ p3 (.inr (.inr rfl));have s4:=k _ g _ _ p4 (.inr (.inr rfl));have s5:=k _ g _ _ p5 (.inr (.inr rfl));have s6:=k _ g _ _ p6 (.inr (.inr rfl));have s7:=k _ g _ _ p7 (.inr (.inr rfl));have s8:=k _ g _ _ p8 (.inr (.inr rfl));have b7:=hid b1;clear b1 g))
      go_wp2_with fail
      go_ret
      refine⟨rfl,?_⟩;rw[a3.out,c7.out];refine ROut.step a6.out (a5.out.trans (Kept.of_below c.out.drew)) a4.out ?_;exact(ROut.step A.1 A.2.1 A.2.2 b7.out).mono (by omega)
     ·go_wp2_with fail
      go_quiet (fail)
      rename Nat=>nq2
      obtain⟨q,a8⟩:=nmd (p.drewN nq2);have c:Hid (Below p.heap.size p q):=by rw[<-a8.out];exact aJ aF nq2
      have a9:=a8.out;rw[a9];clear a9;have B:=ag c.out B;have D:=ag c.out D;have E:=ag c.out E;have G:=ag c.out G;have H:=ag c.out H;have I:=ag c.out I;have J:=ag c.out J;have L:=ag c.out L;have M:=ag c.out M;have T:=ag c.out T;have O:=ag c.out O
      go_wp2_with fail
      have f4:(0:Int)<=(a:Int):=by omega
      have f5:(a:Int)<6:=by omega
      have f6:¬((a:Int)<0):=by omega
      go_region_held3 (fun V=>V.cell? ⟨(f.K i).nd,2,none⟩=some (.slice (some ⟨(f.K i).ls,0,none⟩) 6 6)∧V.cell? ⟨(f.K i).ls,a,none⟩=some (.pointer (some ⟨(f.K i).lb a,0,none⟩))∧V.cell? ⟨w1.heap.size,0,none⟩=some (.int .i64 (v:Int))∧V.cell? ⟨w1.heap.size,1,none⟩=some (.int .i64 (i:Int))∧V.cell? ⟨w1.heap.size,2,none⟩=some (.int .i64 (a:Int))∧V.cell? ⟨w1.heap.size,3,none⟩=some (.int .i64 ((6:Nat):Int))∧V.cell? ⟨w1.heap.size,4,none⟩=some (.int .i64 (o:Int))∧V.cell? ⟨w1.heap.size,5,none⟩=some (.bool R)∧V.cell? ⟨w1.heap.size,6,none⟩=some (.int .i64 (ph:Int))∧V.cell? ⟨w1.heap.size,7,none⟩=some (.int .i64 (pr:Int))∧V.cell? ⟨w1.heap.size,8,none⟩=some (.int .i64 (pa:Int))) (go_keep) (first|(go_at_call 88;(with_reducible refine(HH.out 6 rfl _ c.out.drew).mono ?_);rintro e u ⟨x,P,s,rfl,X,Z,a0,d,a1⟩;have q0:=l.out _ _ d _ _ T (.inl rfl);have q1:=l.out _ _ d _ _ O (.inr (.inl rfl));have p0:=l.out _ _ d _ _ B (.inr (.inr rfl));have p1:=l.out _ _ d _ _ D (.inr (.inr rfl));have p2:=l.out _ _ d _ _ E (.inr (.inr rfl));have p3:=l.out _ _ d _ _ G (.inr (.inr rfl));have p4:=l.out _ _ d _ _ H (.inr (.inr rfl));have p5:=l.out _ _ d _ _ I (.inr (.inr rfl));have p6:=l.out _ _ d _ _ J (.inr (.inr rfl));have p7:=l.out _ _ d _ _ L (.inr (.inr rfl));have p8:=l.out _ _ d _ _ M (.inr (.inr rfl));obtain⟨Q,Y6,A,b0,k⟩:=c8.out q u x P s c.out X Z a0 d a1;clear X Z a0 d a1)|(go_at_call 83;(with_reducible refine b0.mono ?_);rintro e w7 ⟨rfl,b1,g⟩;have r0:=k _ g _ _ q0 (.inl rfl);have r1:=k _ g _ _ q1 (.inr (.inl rfl));have s0:=k _ g _ _ p0 (.inr (.inr rfl));have s1:=k _ g _ _ p1 (.inr (.inr rfl));have s2:=k _ g _ _ p2 (.inr (.inr rfl));have s3:=k _ g _ _ p3 (.inr (.inr rfl));have s4:=k _ g _ _ p4 (.inr (.inr rfl));have s5:=k _ g _ _ p5 (.inr (.inr rfl));have s6:=k _ g _ _ p6 (.inr (.inr rfl));have s7:=k _ g _ _ p7 (.inr (.inr rfl));have s8:=k _ g _ _ p8 (.inr (.inr rfl));have b7:=hid b1;clear b1 g))
      go_wp2_with fail
      go_ret
      refine⟨rfl,?_⟩;rw[a3.out,c7.out];refine ROut.step a6.out (a5.out.trans (Kept.of_below c.out.drew)) a4.out ?_;exact(ROut.step A.1 A.2.1 A.2.2 b7.out).mono (by omega)
   ·have U:Hid (de zs (ay V j) F=aQ (ay V j) i F∧cX zs (ay V j) F=ca i ((ay V j).nd i) F):=by
     have e1:¬fO F.k=true:=by rw[a2.out];unfold fO;show ¬decide ((t:Int)=2∨(t:Int)=4∨(t:Int)=6)=true;rw[aS (by omega)];decide
     have e2:F.t.toNat=i:=by rw[a2.out];exact aU i
     unfold de cX;rw[aa e1,aa e1,e2];exact⟨rfl,rfl⟩
    have c9:((ay V j).nd i).l≠-2:=by have:=c4.out;unfold upN at this;simpa using this
    have d1:=hid (mE (F:=F) y.out.inv (by rw[a2.out];exact c9) b5.out hm);rw[U.out.2]at d1;have d2:=hid (qH v a t o ph pr pa R F a2.out y.out b2.out c4.out b5.out (by omega));rw[b6.out]at d2;have HH:=hid (fY (y.out.inv.nd i b2.out) c9 b5.out (by omega));obtain⟨d3,f7⟩:=nmd (upN (aM ((ay V j).nd i) F));rw[f7.out]at d2;have k2:((t:Int)==2)=false:=beq_eq_false_iff_ne.2 (by omega);have k4:((t:Int)==4)=false:=beq_eq_false_iff_ne.2 (by omega);have k6:((t:Int)==6)=false:=beq_eq_false_iff_ne.2 (by omega);clear c9 c5 O T
    go_wp2_with fail
    refine d2.out.mono ?_;rintro e w5 ⟨x,rfl,C5,Y5,g1,g2,g3,g4,g5⟩;have b0:=hid (la x _ g1 g5.fr d1.out.1 (bc d1.out.2 (by decide)) (by omega));rw[fH g2,b6.out]at b0;have b4:=hid (And.intro g1 (And.intro g2 (And.intro g3 g4)));clear g1 g2 g3 g4 g5 B D E G H I J L M d0
    cases d3 with
    | true =>
     go_wp2_with fail
     refine b0.out.mono ?_;rintro e u ⟨rfl,f8⟩;have A:=hid f8;clear f8
     go_wp2_with fail
     go_ret
     refine⟨rfl,?_⟩;rw[a3.out,U.out.1,U.out.2];refine ROut.step a6.out a5.out a4.out ?_;exact(ROut.step b4.out.2.1 b4.out.2.2.1 b4.out.2.2.2 A.out).mono (by omega)
    | false =>
     have hn:ca i ((ay V j).nd i) F=[]:=by
      have h1:=HH.out.up;rw[f7.out]at h1;unfold ca;rw[aa (fun r=>by rw[bo r.1]at h1;cases h1)]
     have h9:=hid hn;clear hn
     go_wp2_with fail
     go_ret
     refine⟨rfl,?_⟩;rw[a3.out,U.out.1,U.out.2,h9.out,iE];refine ROut.step a6.out a5.out a4.out ?_;exact ROut.mono ⟨C5,Y5,b4.out.1,b4.out.2.1,b4.out.2.2.1,b4.out.2.2.2⟩ (by omega)
end
end Go.Proofs.YtaehdgemkafinaaGreatDoor
