/-
  On the way to SPlaysProof: O6E XT XL XM.
-/
import Derived.Test.YtaehdgemkafinaaGreatDoorBx30
import Derived.Test.YtaehdgemkafinaaGreatDoorBx32
set_option maxHeartbeats 8000000
set_option maxRecDepth 100000
namespace Go.Proofs.YtaehdgemkafinaaGreatDoor
open Go.RowKit
open Go.Proofs.Tryz
theorem aiP(d:Array Value)(h:d.size=62):∃g i j k l m n o p q r s t u v w x y z A B C D E F G H I J K L M N O P Q R S T U V W X Y Z a0 a1 a2 a3 a4 a5 a6 a7 a8 a9 b0 b1 b2 b3 b4 b5 b6:Value,d=#[g,i,j,k,l,m,n,o,p,q,r,s,t,u,v,w,x,y,z,A,B,C,D,E,F,G,H,I,J,K,L,M,N,O,P,Q,R,S,T,U,V,W,X,Y,Z,a0,a1,a2,a3,a4,a5,a6,a7,a8,a9,b0,b1,b2,b3,b4,b5,b6]:=by
 obtain⟨a⟩:=d;have h':a.length=62:=h;refine⟨a.getD 0 undef,a.getD 1 undef,a.getD 2 undef,a.getD 3 undef,a.getD 4 undef,a.getD 5 undef,a.getD 6 undef,a.getD 7 undef,a.getD 8 undef,a.getD 9 undef,a.getD 10 undef,a.getD 11 undef,a.getD 12 undef,a.getD 13 undef,a.getD 14 undef,a.getD 15 undef,a.getD 16 undef,a.getD 17 undef,a.getD 18 undef,a.getD 19 undef,a.getD 20 undef,a.getD 21 undef,a.getD 22 undef,a.getD 23 undef,a.getD 24 undef,a.getD 25 undef,a.getD 26 undef,a.getD 27 undef,a.getD 28 undef,a.getD 29 undef,a.getD 30 undef,a.getD 31 undef,a.getD 32 undef,a.getD 33 undef,a.getD 34 undef,a.getD 35 undef,a.getD 36 undef,a.getD 37 undef,a.getD 38 undef,a.getD 39 undef,a.getD 40 undef,a.getD 41 undef,a.getD 42 undef,a.getD 43 undef,a.getD 44 undef,a.getD 45 undef,a.getD 46 undef,a.getD 47 undef,a.getD 48 undef,a.getD 49 undef,a.getD 50 undef,a.getD 51 undef,a.getD 52 undef,a.getD 53 undef,a.getD 54 undef,a.getD 55 undef,a.getD 56 undef,a.getD 57 undef,a.getD 58 undef,a.getD 59 undef,a.getD 60 undef,a.getD 61 undef,?_⟩;apply Array.ext
 ·exact h
 ·intro c h1 h2
  have e:c<62:=h2;simp only[List.getElem_toArray];rw[show a[c]=a.getD c undef by rw[List.getD,cG,Option.getD_some]];have:∀b,b<62->(([a.getD 0 undef,a.getD 1 undef,a.getD 2 undef,a.getD 3 undef,a.getD 4 undef,a.getD 5 undef,a.getD 6 undef,a.getD 7 undef,a.getD 8 undef,a.getD 9 undef,a.getD 10 undef,a.getD 11 undef,a.getD 12 undef,a.getD 13 undef,a.getD 14 undef,a.getD 15 undef,a.getD 16 undef,a.getD 17 undef,a.getD 18 undef,a.getD 19 undef,a.getD 20 undef,a.getD 21 undef,a.getD 22 undef,a.getD 23 undef,a.getD 24 undef,a.getD 25 undef,a.getD 26 undef,a.getD 27 undef,a.getD 28 undef,a.getD 29 undef,a.getD 30 undef,a.getD 31 undef,a.getD 32 undef,a.getD 33 undef,a.getD 34 undef,a.getD 35 undef,a.getD 36 undef,a.getD 37 undef,a.getD 38 undef,a.getD 39 undef,a.getD 40 undef,a.getD 41 undef,a.getD 42 undef,a.getD 43 undef,a.getD 44 undef,a.getD 45 undef,a.getD 46 undef,a.getD 47 undef,a.getD 48 undef,a.getD 49 undef,a.getD 50 undef,a.getD 51 undef,a.getD 52 undef,a.getD 53 undef,a.getD 54 undef,a.getD 55 undef,a.getD 56 undef,a.getD 57 undef,a.getD 58 undef,a.getD 59 undef,a.getD 60 undef,a.getD 61 undef]:List Value)[b]?)=some (a.getD b undef):=by
   intro b hj;have hc:b=0∨b=1∨b=2∨b=3∨b=4∨b=5∨b=6∨b=7∨b=8∨b=9∨b=10∨b=11∨b=12∨b=13∨b=14∨b=15∨b=16∨b=17∨b=18∨b=19∨b=20∨b=21∨b=22∨b=23∨b=24∨b=25∨b=26∨b=27∨b=28∨b=29∨b=30∨b=31∨b=32∨b=33∨b=34∨b=35∨b=36∨b=37∨b=38∨b=39∨b=40∨b=41∨b=42∨b=43∨b=44∨b=45∨b=46∨b=47∨b=48∨b=49∨b=50∨b=51∨b=52∨b=53∨b=54∨b=55∨b=56∨b=57∨b=58∨b=59∨b=60∨b=61:=by omega
   rcases hc with rfl|rfl|rfl|rfl|rfl|rfl|rfl|rfl|rfl|rfl|rfl|rfl|rfl|rfl|rfl|rfl|rfl|rfl|rfl|rfl|rfl|rfl|rfl|rfl|rfl|rfl|rfl|rfl|rfl|rfl|rfl|rfl|rfl|rfl|rfl|rfl|rfl|rfl|rfl|rfl|rfl|rfl|rfl|rfl|rfl|rfl|rfl|rfl|rfl|rfl|rfl|rfl|rfl|rfl|rfl|rfl|rfl|rfl|rfl|rfl|rfl|rfl<;>rfl
  have f:=this c e;rw[cG e]at f;exact(bF f).symm
structure CmdO (w:World) (mb pb bb:Nat) (vs:Nat->Value):Prop where
 own:∃n D,w.ownsMap prog 9 elO mb n D∧∀s z,D.atKey (.string s) z=match dB s with|none=>z|some i=>.held (vs i)
 box:bR w bb (az pb)
 lb:pb<bb
 ent:∀i,i<19->EntO w pb bb i (vs i)
theorem aa9{Q:Exit->Act->World->Prop}{a:Act}{w:World}{pb bb:Nat}(m:a.tmps.size=62)(h1:a.eval (.tmp 1)=az bb)(n:bR w bb (az pb))(o:pb<bb)(p:pb<w.heap.size)(q:∀(d:Act) (w':World) g r,d.tmps.size=62->d.defers=a.defers->d.eval (.tmp 2)=.map (some g)->w.heap.size<=g->Below w.heap.size w w'->CmdO w' g pb bb r->Q .normal d w'):(Code.region 1 (eK Tryz.f17) true).wp prog Q a w:=by
 refine wp_region_any (by kernel_rfl) ?_;have key:=acF (P:=prog) (md:=.any) (ops:=eK Tryz.f17) (Q:=Q) (I:=fun i k d w'=>i<=79∧CiO a.defers w pb bb i k d w') af3 ?step ?fin (eK Tryz.f17).size (Array.replicate (eK Tryz.f17).size false) a w.drew (by simp) ?cnt ?start
 ·exact key
 case step =>
  intro i k d w' c e j s t;rw[lR]at j;exact wpOp_mono (fun H I b u v=>⟨by have:=c.1;omega,b u v⟩) (ahf c.2 (by have:=c.1;omega) j s t)
 case fin =>
  intro i k d w' c h;rw[lR]at h;obtain⟨g,x,y,z,A,B,-,C⟩:=c.2.mp (h 0 (by omega));refine q d w' g (fun e=>d.eval (.tmp (3*e+6))) c.2.sz c.2.df ((c.2.e2 (h 78 (by omega))).trans z) A c.2.bel ⟨⟨x,y,B,fun l D=>?_⟩,c.2.box,c.2.lb,fun e j=>c.2.cl e j (h _ (by omega))⟩;rw[C l D];unfold atO
  cases E:dB l with
  | none=>rfl
  | some e=>exact af (h _ (by have:=(fL E).1;omega))
 case cnt =>
  unfold tG;exact bc (List.length_filter_le _ _) (by simp)
 case start =>
  have F:∀e,(Array.replicate (eK Tryz.f17).size false).getD e false=false:=fun e=>by
   simp[Array.getElem?_replicate]
   split<;>rfl
  have f:∀{G:Prop} {e:Nat},(Array.replicate (eK Tryz.f17).size false).getD e false=true->G:=fun b=>by rw[F]at b;cases b
  exact⟨by rw[lR];exact aj,m,rfl,h1,n,o,p,⟨rfl,rfl,rfl,aj,fun _ _=>rfl⟩,fun _ _ b=>f b,fun _ _ b=>f b,fun _ _ b=>f b,fun b=>f b,fun b=>f b,fun b=>f b,fun _ _ b=>f b,fun b=>f b,fun b=>f b⟩
theorem uF(pb:Nat)(w:World)(d:pb<w.heap.size):Calls prog 17 #[az pb] w fun e w'=>∃a bb c,e=.returned (.map (some a))∧CmdO w' a pb bb c∧Below w.heap.size w w'∧w.heap.size<=a:=by
 have f:=hid d;have g:=oH w 44 (az pb);have h:bW w (w.alloc (.cells #[az pb] 44)):=aD;have b:=hid (And.intro g h);clear d g h
 go_enter func17,ntmps17
 go_wp2_with fail
 refine aa9 (pb:=pb) (bb:=w.heap.size) rfl rfl b.1 f (bm f b.2.size) ?_;intro m w' a c i n o j k l;have p:=hid (And.intro l (And.intro (b.2.trans (k.mono b.2.size)) (bc b.2.size j)));clear j k l;obtain⟨q,r⟩:=m;obtain⟨t,u,s,v,x,y,z,A,B,C,D,E,F,G,H,I,J,K,L,M,N,O,P,Q,R,S,T,U,V,W,X,Y,Z,a0,a1,a2,a3,a4,a5,a6,a7,a8,a9,b0,b1,b2,b3,b4,b5,b6,b7,b8,b9,c0,c1,c2,c3,c4,c5,c6,c7,c8,e⟩:=aiP q i;subst e;obtain rfl:s=.map (some a):=o;obtain rfl:r=[]:=n;clear i
 go_wp2_with fail
 go_ret
 exact⟨a,w.heap.size,c,rfl,p⟩
section
variable {w0 w w1 w':World} {C C':Nat→Nat} {K:RB} {Y:YB} {aw:Option Addr} {i n cap m m':Nat} {zs:List Int} {N:PN} {V V':PX}
theorem xt{V:PX}{i d:Nat}{F:F9}(a:F.d.toNat=d):aQ V i F={ aA V i (aM (V.nd i) F)with evs:=noteE V.evs i d (stN (V.nd i) d).ph (stN (aM (V.nd i) F) d).ph }:=by unfold aQ;rw[a]
theorem yR(E:List E3)(i d a:Nat):noteE E i d a a=E:=by unfold noteE;rw[aa (fun b=>b.1 rfl)]
theorem XI.noteE{V:PX}{d a b:Nat}(h:XI zs V m):XI zs { V with evs:=noteE V.evs i d a b } m:=
 ⟨h.he,h.nd,h.fr,h.fl,by
  show(Go.Proofs.YtaehdgemkafinaaGreatDoor.noteE V.evs i d a b).length<=500;have:=h.ev;unfold Go.Proofs.YtaehdgemkafinaaGreatDoor.noteE
  split
  ·rename_i c;rw[aR];simp only[bq,List.length_nil];omega
  ·exact this⟩
theorem qH(f d k a ph pr pa:Nat)(y:Bool)(F:F9)(u:F=frN f i d k a y ph pr pa)(h:RW w0 w C Y aw cap zs V m)(x:i<zs.length)(z:upN (V.nd i)=true)(G:FI zs.length F)(hm:m<100000000):Calls prog 87 #[.pointer (some ⟨Y.xb,0,none⟩),.int .i64 (i:Int),frV (f:Int) (i:Int) (d:Int) (k:Int) (a:Int) y (ph:Int) (pr:Int) (pa:Int)] w fun e w'=>∃v,e=.returned (.tuple #[v,.bool (upN (aM (V.nd i) F))])∧afv w0 w w' C Y aw cap zs (aQ V i F) (m+1) v (ca i (V.nd i) F):=by
 have hd:d<6:=by have:=G.ok.2.2.1;rw[u]at this;have:(0:Int)<=d∧(d:Int)<=5:=this;omega
 have a1:(V.nd i).l≠-2:=by unfold upN at z;simpa using z
 obtain⟨L,HW⟩:=nmd (w.alloc (.cells #[.int .i64 (f:Int),.int .i64 (i:Int),.int .i64 (d:Int),.int .i64 (k:Int),.int .i64 (a:Int),.bool y,.int .i64 (ph:Int),.int .i64 (pr:Int),.int .i64 (pa:Int)] 125));have HB:Hid (Below w.heap.size w L):=by rw[<-HW.out];exact aD
 have HR:Hid (L.heap[w.heap.size]?=some (.cells #[.int .i64 (f:Int),.int .i64 (i:Int),.int .i64 (d:Int),.int .i64 (k:Int),.int .i64 (a:Int),.bool y,.int .i64 (ph:Int),.int .i64 (pr:Int),.int .i64 (pa:Int)] 125 (0,0))):=by rw[<-HW.out];exact aB w _
 obtain⟨b0,b1,b2,b3,b4,b5,b6,b7,b8⟩:=bH HR.out;have A:=hid h;have M:=hid (h.later HB.out);have q:=hid x;have T:=hid z;have f1:=hid G;have HF:=hid u;obtain⟨-,U,-,-,-⟩:=M.out.cells;have c2:=M.out.ns i x;have hN:=M.out.nds i x;obtain⟨W,-,-,-⟩:=hN.cells;unfold rsV at W;rw[z,af rfl]at W;have n7:=h.n7;have j:=hid (fY (h.inv.nd i x) a1 G (by omega));have c8:=hid (agc (h.inv.nd i x) a1 G (by omega));obtain⟨n,a6⟩:=nmd (zs.length);rw[a6.out]at U x n7;have r:F.d.toNat=d:=by rw[u];exact aU d
 obtain⟨g,HG⟩:=nmd (gHN (V.nd i) F);obtain⟨b,l⟩:=nmd (oHN (V.nd i) F);have c9:Hid (aO (dlN (V.nd i) d).2 ((V.nd i).R d) k a ph=g):=by rw[<-HG.out,u];rfl
 have d0:Hid (ig (dlN (V.nd i)) (V.nd i).over (V.nd i).B (V.nd i).l d g.st.ph g.st.pr g.st.at_=b):=by rw[<-l.out,<-HG.out,u];rfl
 have d1:Hid (mA f i d k a ph pr pa):=by have:=G.ok;rw[u]at this;exact this
 have d2:Hid (∀e,e<6->((dlN (V.nd i)) e).1<4294967296):=fun e B=>by have:=(h.inv.nd i q.out).nm e B;omega
 have s:Hid (∀c,w.heap.size<=c->¬In4 (Y.K i).m (Y.K i).gn (Y.K i).gs (Y.K i).r c):=fun c t e=>by
  obtain⟨f2,e2,f3,f4⟩:=((h.nds i q.out).up z).1.lts;unfold In4 at e;omega
 have O:Hid (C (Y.K i).nd=100*i+1∧C (Y.K i).t=100*i+2∧∀c,In4 (Y.K i).m (Y.K i).gn (Y.K i).gs (Y.K i).r c->C c=100*i+3∨C c=100*i+4∨C c=100*i+5∨C c=100*i+7):=by
  obtain⟨U,c2,f5,f6,f7⟩:=(h.nds i q.out).cu z;have e2:=(h.nds i q.out).cr;refine⟨(h.nds i q.out).cn,U,fun c t=>?_⟩;rcases t with rfl|rfl|rfl|rfl<;>omega
 have a7:Hid (¬In4 (Y.K i).m (Y.K i).gn (Y.K i).gs (Y.K i).r (Y.K i).nd):=fun e=>by have:=O.out.2.2 _ e;have:=O.out.1;omega
 have d3:Hid (¬In4 (Y.K i).m (Y.K i).gn (Y.K i).gs (Y.K i).r (Y.K i).t):=fun e=>by have:=O.out.2.2 _ e;have:=O.out.2.1;omega
 have hW:=HW.out;clear h z G u hN a1
 go_enter func87,ntmps87
 go_wp2_with fail
 go_region_held3 (fun V=>V.cell? ⟨(Y.K i).nd,0,none⟩=some (.pointer (some ⟨(Y.K i).t,0,none⟩))∧V.cell? ⟨w.heap.size,0,none⟩=some (.int .i64 (f:Int))∧V.cell? ⟨w.heap.size,1,none⟩=some (.int .i64 (i:Int))∧V.cell? ⟨w.heap.size,2,none⟩=some (.int .i64 (d:Int))∧V.cell? ⟨w.heap.size,3,none⟩=some (.int .i64 (k:Int))∧V.cell? ⟨w.heap.size,4,none⟩=some (.int .i64 (a:Int))∧V.cell? ⟨w.heap.size,5,none⟩=some (.bool y)∧V.cell? ⟨w.heap.size,6,none⟩=some (.int .i64 (ph:Int))∧V.cell? ⟨w.heap.size,7,none⟩=some (.int .i64 (pr:Int))∧V.cell? ⟨w.heap.size,8,none⟩=some (.int .i64 (pa:Int))) (go_keep) (first|(go_at_call 144;(with_reducible refine(afn (Y.K i).t (Y.K i).m (Y.K i).gb (Y.K i).gn (Y.K i).gs (Y.K i).r i f d k a ph pr pa y (V.nd i).R (dlN (V.nd i)) (V.nd i).over (V.nd i).B (V.nd i).l _ g b ((M.out.drew.nds i q.out).up T.out).2 ((M.out.drew.nds i q.out).up T.out).1 d2.out d1.out c9.out d0.out d3.out).mono ?_);rintro e X ⟨v,rfl,a8,a9,o,b9⟩;have q0:=bG o W a7.out;have D:=bG o b0 (s.out _ aj);have E:=bG o b1 (s.out _ aj);have q3:=bG o b2 (s.out _ aj);have q4:=bG o b3 (s.out _ aj);have q5:=bG o b4 (s.out _ aj);have q6:=bG o b5 (s.out _ aj);have q7:=bG o b6 (s.out _ aj);have q8:=bG o b7 (s.out _ aj);have q9:=bG o b8 (s.out _ aj);have H:=hid (And.intro a8 (And.intro a9 (And.intro o b9)));clear a8 a9 o b9))
 clear q0 D E q3 q4 q5 q6 q7 q8 q9 b0 b1 b2 b3 b4 b5 b6 b7 b8 U c2 W;have d4:Hid (b.e=au b.b.data.toList):=by have:=j.out.e;rw[l.out]at this;rw[this];unfold dlN;rw[rY,l.out];exact rfl
 have a2:Hid (RK X (Y.K i).m (Y.K i).gn (Y.K i).gs (Y.K i).r (au b.b.data.toList) b.over b.b b.l):=by have:=H.out.2.1;rw[d4.out]at this;exact this
 have I:Hid (Kept (In4 (Y.K i).m (Y.K i).gn (Y.K i).gs (Y.K i).r) w X):=(Kept.of_below HB.out).trans ((Kept.refl _ L).drew.trans H.out.2.2.1);have d5:Hid (FrF X C w.heap.size v (ca i (V.nd i) F)):=by
  have:=AnsV.frf (w:=X) (C:=C) (id:=i) (f:=F) (g:=g) (c:=b.c) (base:=w.heap.size) (v:=v) (by rw[HF.out];exact H.out.1) (fun a cp e=>bc HB.out.size (H.out.2.2.2 a cp e)) (fun c t=>by rcases bU (C c) 2000 with Z|Z;(have:=A.out.lt c Z;omega);exact Z)
  unfold ca;rw[HG.out,l.out];exact this
 have P:Hid (∀e,stN (aM (V.nd i) F) e=(au b.b.data.toList e).2):=fun e=>by unfold stN dlN;rw[rY,l.out]
 have Q:=j.out.up;rw[l.out]at Q;rcases j.out.c with p|p
 ·have a0:=xx p
  rw[l.out]at p a0;have a3:(b.c:Int)=0:=by omega
  have R:upN (aM (V.nd i) F)=true:=by rw[Q,p];rfl
  rw[a3];have d6:=hid R;have c0:b.l≠-2:=by rw[a0]at R;unfold upN at R;simpa using R
  have d7:=hid c0;have c1:=hid a0;have c3:=hid (j.out.yes (by rw[l.out];exact p));clear Q R c0 a0 H
  go_wp2_with fail
  refine(sU (A.out.nt q.out T.out I.out a2.out) (by rw[a6.out];exact x) (bc A.out.bel.size I.out.size)).mono ?_;rintro e w5 ⟨rfl,c4⟩;have d8:=hid c4;clear c4
  go_wp2_with fail
  go_ret2
  refine⟨v,by rw[d6.out];rfl,?_⟩;have d9:∀e,e<6->(aT (stN (V.nd i) e).ph=true->aT (au b.b.data.toList e).2.ph=true):=fun e B J=>by
   rw[<-P.out e]
   by_cases g:e=d
   ·have D:=j.out.may
    have E:=c3.out;rw[r]at D E;rw[g]at J ⊢;rw[E,sW D J];exact J
   ·have:=j.out.other e (by rw[r];exact g)
    unfold stN;rw[this];exact J
  have e0:cR V.evs i (fun d=>aT (stN (V.nd i) d).ph) (fun d=>(au b.b.data.toList d).2.ph) 6=noteE V.evs i d (stN (V.nd i) d).ph (stN (aM (V.nd i) F) d).ph:=by
   rw[P.out d];refine abU hd (fun e B e1=>?_) rfl (fun J=>?_)
   ·show aT (stN (V.nd i) e).ph=aT (au b.b.data.toList e).2.ph
    rw[<-P.out e];have:=j.out.other e (by rw[r];exact e1);unfold stN;rw[this]
   ·show(au b.b.data.toList d).2.ph=_
    rw[<-P.out d];have D:=j.out.may;have E:=c3.out;rw[r]at D E;rw[E];exact sW D J
  have c5:=d8.out;rw[e0]at c5;have hX:XI zs { aA V i (aM (V.nd i) F)with evs:=noteE V.evs i d (stN (V.nd i) d).ph (stN (aM (V.nd i) F) d).ph } (m+1):=(A.out.inv.node j.out.ni (aP _)).noteE;have S:=A.out.heardOut (m':=m+1) q.out T.out d7.out I.out a2.out c5 (fun e B=>sC B (d9 e B)) (aP _) (by rw[<-c1.out];exact hX);rw[<-c1.out,<-xt r]at S;obtain⟨C',Y',x1,x2,x3,x4,x5⟩:=S;exact⟨C',Y',x1,x2,x3,fun c t=>x4 c (bm t I.out.size),d5.out.kept x5 x4⟩
 ·have a4:=xn p
  have a5:=c8.out p;rw[l.out]at p a4 a5;have a3:(b.c:Int)=6:=by omega
  have c6:upN (aM (V.nd i) F)=false:=by rw[Q,p];rfl
  rw[a3];have e3:=hid c6;have e4:Hid (∀e,e<6->aT (au b.b.data.toList e).2.ph=aT (stN (V.nd i) e).ph):=fun e B=>by
   rw[<-P.out e]
   by_cases g:e=d
   ·have:=j.out.no (by rw[l.out];exact p)
    rw[r]at this;rw[g];unfold stN;rw[this]
   ·have:=j.out.other e (by rw[r];exact g)
    unfold stN;rw[this]
  have e5:Hid (stN (aM (V.nd i) F) d=stN (V.nd i) d):=by
   have:=j.out.no (by rw[l.out];exact p);rw[r]at this;show stN _ _=_;unfold stN;rw[this]
  have e7:=hid (I.out.row (A.out.nds i q.out).row a7.out);have e8:=hid a4;have HL:=hid a5;have e9:=hid p;clear Q c6 a4 H a5
  go_wp2_with fail
  refine(ts e7.out).mono ?_;rintro e w5 ⟨rfl,rfl⟩
  go_wp2_with fail
  go_ret2
  refine⟨.slice none 0 0,by rw[e3.out];rfl,?_⟩;have c7:=a2.out.rp;rw[HL.out]at c7;have f0:=j.out.ni;have e6:aM (V.nd i) F=gQ { V.nd i with B:=b.b,over:=b.over }:=e8.out;have S:=A.out.fell (m':=m+1) (ov:=b.over) q.out I.out (fun c t=>by have:=O.out.2.2 c t;omega) c7 e4.out (aP _) (by rw[<-e6];exact f0);rw[<-e6]at S;have t:aQ V i F=aA V i (aM (V.nd i) F):=by rw[xt r,e5.out,yR];rfl
  rw[t];obtain⟨C',Y',x1,x2,x3,x4⟩:=S;refine⟨C',Y',x1,x2,x3,x4,?_⟩;have:ca i (V.nd i) F=[]:=by unfold ca;rw[l.out,aa (fun Z=>by have:=e9.out;omega)]
  rw[this];exact FrF.nil _ _ _
end
theorem zS{a b k:Nat}{L:List (Nat×Nat)}(c:k<L.length):cQ a b (L.take (k+1))=cQ a b (L.take k)++if(L[k]'c)≠(a,b)∧(L[k]'c)≠(b,a)then[L[k]'c]else[]:=by
 unfold cQ;rw[List.take_succ_eq_append_getElem c,List.filter_append]
 congr 1
 by_cases d:(L[k]'c)≠(a,b)∧(L[k]'c)≠(b,a)
 ·rw[af d,List.filter_cons_of_pos (by simpa using d),List.filter_nil]
 ·rw[aa d,List.filter_cons_of_neg (by simpa using d),List.filter_nil]
theorem lc(L M:List (Nat×Nat)):cA (L++M)=cA L++cA M:=by unfold cA;rw[List.flatMap_append]
theorem kO(a b:Nat)(L:List (Nat×Nat)):(cQ a b L).length<=L.length:=List.length_filter_le _ _
section
variable {w0 w w':World} {C C':Nat→Nat} {Y:YB} {aw:Option Addr} {cap m m':Nat} {zs:List Int} {V V':PX}
def LkR(w wr:World)(a b:Nat)(L:List (Nat×Nat))(v:Value):Prop:=wr.ownsRow w.heap.size 131 2 v (cQ a b L).length (cA (cQ a b L))∧Below w.heap.size w wr
theorem aeN(a b:Nat)(whole:Bool)(h:RW w0 w C Y aw cap zs V m)(ha:a<zs.length)(hb:b<zs.length)(hm:m<=100000000):Calls prog 30 #[.pointer (some ⟨Y.xb,0,none⟩),.int .i64 (a:Int),.int .i64 (b:Int),.bool whole] w fun e w'=>e=.returned (.int .i64 0)∧ROut w0 w w' C Y aw cap zs (eH V a b whole) (m+1):=by
 obtain⟨c,hL,a3,a8⟩:=h.brk;obtain⟨ad,a9,hv,hc⟩:=xM hL rfl;obtain⟨-,c1,M,-,-⟩:=h.cells;rw[hv]at M;have HC:=hid hc;have R:=hid h;have n7:=h.n7;have b0:=hid a3;obtain⟨y,z⟩:=nmd (c.length);obtain⟨N,hz⟩:=nmd (zs.length);rw[z.out]at M a8;rw[hz.out]at c1 ha hb n7;clear h hL hv hc a3
 go_enter func30,ntmps30
 go_wp2_with fail
 simp only[show decide ((a:Int)<0)=false from aS (by omega),show decide ((b:Int)<0)=false from aS (by omega),show decide (N<=a)=false from aS (by omega),show decide (N<=b)=false from aS (by omega),Bool.or_false]
 go_loopw [9,10] (fun b1 S wr=>∃d:Nat,d<=y∧S=iV (d:Int)∧LkR w wr a b (c.take d) b1) (fun _ S _=>y-(intOf S).toNat)
 case atStart=>exact⟨0,Nat.zero_le _,rfl,World.ownsRow_nil _ _ _ _,aF⟩
 case round =>
  obtain⟨d,hk,rfl,A⟩:=hrel
  rename_i u9 _ wr _
  obtain⟨o,p,hu⟩:∃o p,u9=.slice o (cQ a b (c.take d)).length p:=by
   rcases A.1.2 with⟨e,h0⟩|⟨B,cp,b6,e,-⟩
   ·exact⟨none,0,by rw[e,h0]⟩
   ·exact⟨_,_,e⟩
  subst hu;have f:=hid A;have b7:=ag A.2 M;have b8:=A.2.size;clear A
  by_cases b2:d<y
  ·have T:d<c.length:=by rw[z.out];exact b2
   obtain⟨B,rfl,a4,a5⟩:=HC.out d T;have d0:=ag f.2 a4;have d1:=ag f.2 a5;clear a4 a5;have D:=hid (zS (a:=a) (b:=b) T);obtain⟨⟨g,i⟩,HE⟩:∃e,Hid (c[d]'T=e):=⟨_,rfl⟩;rw[HE.out]at d0 d1 D;simp only at d0 d1;obtain⟨O,U⟩:=nmd ((!decide ((g:Int)=(a:Int)∧(i:Int)=(b:Int))));obtain⟨P,W⟩:=nmd ((!decide ((g:Int)=(b:Int)∧(i:Int)=(a:Int))));have hp:∀w,(binOp .neq 131 (.agg #[iV (g:Int),iV (i:Int)]) (.agg #[iV (a:Int),iV (b:Int)])).run prog w=.ok (.bool O) w:=fun w=>by rw[<-U.out];exact abz _ _ _ _ w
   have hq:∀w,(binOp .neq 131 (.agg #[iV (g:Int),iV (i:Int)]) (.agg #[iV (b:Int),iV (a:Int)])).run prog w=.ok (.bool P) w:=fun w=>by rw[<-W.out];exact abz _ _ _ _ w
   cases O with
   | false =>
    have k:g=a∧i=b:=by have:=U.out;simp at this;omega
    have t:Hid (LkR w wr a b (c.take (d+1)) (.slice o (cQ a b (c.take d)).length p)):=by
     show LkR _ _ _ _ _ _;unfold LkR;rw[D.out,aa (fun B=>B.1 (by rw[k.1,k.2])),List.append_nil];exact f
    clear k
    go_wp2_with fail
    go_roundw
    case rel=>exact⟨d+1,by omega,by go_num,t⟩
    case measure=>simp[intOf];omega
   | true =>
    cases P with
    | false =>
     have k:g=b∧i=a:=by have:=W.out;simp at this;omega
     have t:Hid (LkR w wr a b (c.take (d+1)) (.slice o (cQ a b (c.take d)).length p)):=by
      show LkR _ _ _ _ _ _;unfold LkR;rw[D.out,aa (fun B=>B.2 (by rw[k.1,k.2])),List.append_nil];exact f
     clear k
     go_wp2_with fail
     go_roundw
     case rel=>exact⟨d+1,by omega,by go_num,t⟩
     case measure=>simp[intOf];omega
    | true =>
     have k:(g,i)≠(a,b)∧(g,i)≠(b,a):=by
      have e1:=U.out;have e2:=W.out;simp at e1 e2;rw[ne_eq,ne_eq,Prod.mk.injEq,Prod.mk.injEq];omega
     rw[af k]at D;obtain⟨j,u⟩:=nmd (wr.alloc (.cells #[iV (g:Int),iV (i:Int)] 131));have b3:=u.out;have E:Hid (bW wr j):=by rw[<-u.out];exact aD
     have X:Hid (∀q F,(gM (g,i))[q]?=some F->j.cell? ((⟨wr.heap.size,0,none⟩:Addr).add q)=some F):=by rw[<-u.out];exact gE wr 131 (gM (g,i))
     have v:Hid (bW w j):=f.2.trans (E.mono f.2.size);have x:Hid (j.ownsRow w.heap.size 131 2 (.slice o (cQ a b (c.take d)).length p) (cQ a b (c.take d)).length (cA (cQ a b (c.take d)))):=aV f.1 (Kept.of_below (S:=fun _=>False) E) (fun _ _ e=>e);have G:(cQ a b (c.take d)).length<=1000000000000:=by have:=kO a b (c.take d);rw[bI]at this;omega
     have H:Hid (∀l n w',w'.ownsRow w.heap.size 131 2 (.slice l ((cQ a b (c.take d)).length+1) n) ((cQ a b (c.take d)).length+1) (cA (cQ a b (c.take d))++gM (g,i))->j.grownBy w' (Value.slice o (cQ a b (c.take d)).length p).ownBlock->LkR w w' a b (c.take (d+1)) (.slice l ((cQ a b (c.take d)).length+1) n)):=by
      intro l n w' I r;unfold LkR;rw[D.out,aR,lc];refine⟨?_,Below.grown v r v.size (fun q Z=>(x.lt q Z).1)⟩;rw[show cA [(g,i)]=gM (g,i) by unfold cA;simp];exact I
     obtain⟨s,J⟩:=nmd ((cQ a b (c.take d)).length);rw[J.out]at H x G;rw[J.out];have a0:=v.size;clear k f
     go_wp2_with (at_builtin;refine jY rfl _ _ rfl w.heap.size s (.slice o s p) ⟨wr.heap.size,0,none⟩ 1 _ (g,i) rfl rfl x X G a0 ?_;intro l n w' K r;have t:=hid (H l n w' K r);clear K r)
     go_roundw
     case rel=>exact⟨d+1,by omega,by go_num,t⟩
     case measure=>simp[intOf];omega
  ·obtain rfl:d=y:=by omega
   have b4:Hid (c.take d=c):=by rw[<-z.out];exact List.take_length
   rw[b4.out]at f ⊢;have L:Hid (∀(v':Value) (w':World),w'.ownsRow w.heap.size 131 2 v' (jG a b whole c).length (cA (jG a b whole c))->bW w w'->ROut w0 w (w'.setCell ⟨Y.xb,2,none⟩ v') C Y aw cap zs (eH V a b whole) (m+1)):=by
    intro v' w' I b5;refine R.linked b5 I (acW b0) ?_;have k:=kO a b c;have h2:=z.out;unfold jG;rw[aR]
    split
    ·simp only[bq,List.length_nil];omega
    ·simp only[List.length_nil];omega
   have b9:=aK _ Y.xb 2 _ _ ((R.later f.2).row)
   by_cases Q:whole=false∧a≠b
   ·have a1:=hid (show jG a b whole c=cQ a b c++[(a,b)] by unfold jG;rw[af Q])
    obtain⟨rfl,a6⟩:=Q;have c0:¬(a:Int)=(b:Int):=by omega
    obtain⟨j,u⟩:=nmd (wr.alloc (.cells #[iV (a:Int),iV (b:Int)] 131));have b3:=u.out;have E:Hid (bW wr j):=by rw[<-u.out];exact aD
    have X:Hid (∀q F,(gM (a,b))[q]?=some F->j.cell? ((⟨wr.heap.size,0,none⟩:Addr).add q)=some F):=by rw[<-u.out];exact gE wr 131 (gM (a,b))
    have v:Hid (bW w j):=f.2.trans (E.mono f.2.size);have x:Hid (j.ownsRow w.heap.size 131 2 (.slice o (cQ a b c).length p) (cQ a b c).length (cA (cQ a b c))):=aV f.1 (Kept.of_below (S:=fun _=>False) E) (fun _ _ e=>e);have G:(cQ a b c).length<=1000000000000:=by have:=kO a b c;have:=z.out;omega
    have H:Hid (∀l n w',w'.ownsRow w.heap.size 131 2 (.slice l ((cQ a b c).length+1) n) ((cQ a b c).length+1) (cA (cQ a b c)++gM (a,b))->j.grownBy w' (Value.slice o (cQ a b c).length p).ownBlock->w'.cell? ⟨Y.xb,2,none⟩=some (.slice ad d a9)∧w'.frozen? ⟨Y.xb,2,none⟩=false∧ROut w0 w (w'.setCell ⟨Y.xb,2,none⟩ (.slice l ((cQ a b c).length+1) n)) C Y aw cap zs (eH V a b false) (m+1)):=by
     intro l n w' I r;have a2:bW w w':=Below.grown v r v.size (fun q Z=>(x.lt q Z).1);refine⟨ag a2 M,aK _ Y.xb 2 _ _ ((R.later a2).row),L _ w' ?_ a2⟩;rw[a1.out,aR,lc,show cA [(a,b)]=gM (a,b) by unfold cA;simp];exact I
    obtain⟨s,J⟩:=nmd ((cQ a b c).length);rw[J.out]at H x G;rw[J.out];have a0:=v.size;clear f L a6
    go_wp2_with (at_builtin;refine jY rfl _ _ rfl w.heap.size s (.slice o s p) ⟨wr.heap.size,0,none⟩ 1 _ (a,b) rfl rfl x X G a0 ?_;intro l n w' K r;obtain⟨y2,z2,a7⟩:=H.out l n w' K r;have t:=hid a7;clear K r a7)
    go_ret
    exact⟨rfl,t⟩
   ·have a1:=hid (show jG a b whole c=cQ a b c by unfold jG;rw[aa Q,List.append_nil])
    rw[a1.out]at L;have HZ:=hid (L _ _ f.1 f.2);clear L
    cases whole with
    | true =>
     go_wp2_with fail
     go_ret
     exact⟨rfl,HZ⟩
    | false =>
     have a6:(a:Int)=(b:Int):=by
      have:a=b:=Classical.byContradiction (fun e=>Q ⟨rfl,e⟩);omega
     go_wp2_with fail
     go_ret
     exact⟨rfl,HZ⟩
end
section
variable {w0 w w':World} {C C':Nat→Nat} {Y:YB} {aw:Option Addr} {cap m m':Nat} {zs:List Int} {V V':PX}
theorem aeY(a b:Int)(whole:Bool)(h:RW w0 w C Y aw cap zs V m)(c:¬((0<=a∧a<zs.length)∧0<=b∧b<zs.length)):Calls prog 30 #[.pointer (some ⟨Y.xb,0,none⟩),.int .i64 a,.int .i64 b,.bool whole] w fun e w'=>e=.returned (.int .i64 2)∧w'=w:=by
 obtain⟨-,f,-,-,-⟩:=h.cells;have g:=h.n7;obtain⟨d,i⟩:=nmd (zs.length);rw[i.out]at f g c;clear h
 by_cases j:a<0
 ·clear c
  go_enter func30,ntmps30
  go_wp2_with fail
  go_ret
  exact⟨rfl,rfl⟩
 ·by_cases k:(d:Int)<=a
  ·clear c
   go_enter func30,ntmps30
   go_wp2_with fail
   go_ret
   exact⟨rfl,rfl⟩
  ·by_cases l:b<0
   ·clear c
    go_enter func30,ntmps30
    go_wp2_with fail
    go_ret
    exact⟨rfl,rfl⟩
   ·have n:(d:Int)<=b:=by omega
    clear c
    go_enter func30,ntmps30
    go_wp2_with fail
    go_ret
    exact⟨rfl,rfl⟩
end
end Go.Proofs.YtaehdgemkafinaaGreatDoor
