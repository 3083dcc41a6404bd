/-
  On the way to SPlaysProof: SA VA VB VC.
-/
import Derived.Test.YtaehdgemkafinaaGreatDoorBx18
import Derived.Test.YtaehdgemkafinaaGreatDoorBx14
import Derived.DeepKeys4
set_option maxHeartbeats 8000000
set_option maxRecDepth 100000
namespace Go.Proofs.YtaehdgemkafinaaGreatDoor
open Go.RowKit
open Go.Proofs.Tryz
theorem bG{S:Nat->Prop}{w w':World}{a:Addr}{v:Value}(h:Kept S w w')(b:w.cell? a=some v)(c:¬S a.block):w'.cell? a=some v:=by
 rw[World.cell?_of_block (w:=w) (h.block a.block (bY b) c)];exact b
theorem pq{w:World}{g:Nat}{a b c:Value}{d:Addr}{v:Value}(h:w.cell? d=some v)(e:d.block≠g):(((w.setCell ⟨g,0,none⟩ a).setCell ⟨g,1,none⟩ b).setCell ⟨g,2,none⟩ c).cell? d=some v:=by
 rw[World.cell?_of_block (w:=w) (by rw[dS _ _ _ _ e,dS _ _ _ _ e,dS _ _ _ _ e])];exact h
structure FrSt (w wx:World) (b g:Nat) (f t d k a:Int) (y:Bool) (ph pr pa:Int) (x0 x1 x2:Nat):Prop where
 bel:Below w.heap.size w wx
 fr:wx.heap[b]?=some (.cells #[.int .i64 f,.int .i64 t,.int .i64 d,.int .i64 k,.int .i64 a,.bool y,.int .i64 ph,.int .i64 pr,.int .i64 pa] 125 (0,0))
 st:wx.heap[g]?=some (.cells #[.int .i64 (x0:Int),.int .i64 (x1:Int),.int .i64 (x2:Int)] 80 (0,0))
 lb:w.heap.size<=b
 lg:b<g
section
variable {w wx:World} {b g:Nat} {f t d k a:Int} {y:Bool} {ph pr pa:Int} {x0 x1 x2:Nat}
theorem FrSt.later{e:World}(h:FrSt w wx b g f t d k a y ph pr pa x0 x1 x2)(c:Below wx.heap.size wx e):FrSt w e b g f t d k a y ph pr pa x0 x1 x2:=
 ⟨h.bel.trans (c.mono h.bel.size),(c.block _ (ah h.fr)).trans h.fr,(c.block _ (ah h.st)).trans h.st,h.lb,h.lg⟩
theorem FrSt.cells(h:FrSt w wx b g f t d k a y ph pr pa x0 x1 x2):wx.cell? ⟨g,0,none⟩=some (.int .i64 (x0:Int))∧wx.cell? ⟨g,1,none⟩=some (.int .i64 (x1:Int))∧wx.cell? ⟨g,2,none⟩=some (.int .i64 (x2:Int)):=by
 refine⟨?_,?_,?_⟩<;>rw[ai h.st]<;>rfl
end
theorem acy(A:Nat->Addr)(w0 w:World)(s j mb p q n:Nat)(id f d k a ph pr pa:Nat)(y:Bool)(R:Nat->Bool)(E:Nat->Nat×St)(over:Bool)(B:ByteArray)(l:Int)(g:HOut)(o:POut)(h:SP w0 w s j mb p q id R n E over B l)(hE:HeldE w0 A)(hn:∀d,d<6->(E d).1<4294967296)(hf:mA f id d k a ph pr pa)(hg:aO (E d).2 (R d) k a ph=g)(ho:ig E over B l d g.st.ph g.st.pr g.st.at_=o):Calls prog 190 #[.pointer (some ⟨s,0,none⟩),frV f id d k a y ph pr pa] w fun e w'=>∃v,e=.returned (.tuple #[v,ev A o.c])∧AnsV w' v o.c id f d a g∧SP w0 w' s j mb p q id R n o.e o.over o.b o.l∧Kept (In3 j p q) w w'∧∀a c,v=.slice (some a) 1 c->w.heap.size<=a.block:=by
 obtain⟨i,HW⟩:=nmd (w.alloc (.cells #[.int .i64 f,.int .i64 id,.int .i64 d,.int .i64 k,.int .i64 a,.bool y,.int .i64 ph,.int .i64 pr,.int .i64 pa] 125));have HB:Hid (Below w.heap.size w i):=by rw[<-HW.out];exact aD
 have HR:Hid (i.heap[w.heap.size]?=some (.cells #[.int .i64 f,.int .i64 id,.int .i64 d,.int .i64 k,.int .i64 a,.bool y,.int .i64 ph,.int .i64 pr,.int .i64 pa] 125 (0,0))):=by rw[<-HW.out];exact aB w _
 obtain⟨O,P,u,Q,S,T,U,V,W⟩:=bH HR.out;have hW:=HW.out;have HF:Hid ((if mA f id d k a ph pr pa then 0 else 2)=0):=af hf;have hd:d<6:=by have:=hf.2.2.1;omega
 have c9:1<=k∧k<=7:=by have:=hf.2.2.2.1;omega
 have X:=hid h;have HE:=hid hE;have HN:=hid hn;obtain⟨⟨sh,sp,sa⟩,a9⟩:∃Y,Hid ((E d).2=Y):=⟨_,rfl⟩;rw[a9.out]at hg;have HG:=hid hg;have HO:=hid ho;have b7:=hid ((hE.later h.jp.bel).later HB.out);clear h hf hn hg ho hE
 go_enter func190,ntmps190
 go_wp2_with (go_at_call 214;(with_reducible refine(aev A f id d k a y ph pr pa 0 _ b7.out HF.out).mono ?_);rintro e t ⟨rfl,b0⟩;unfold ev;have z:=hid (HB.out.trans (b0.mono HB.out.size));obtain⟨K,x1,x2⟩:=(X.out.sr.later z.out).cells;have Z:=hid ((b0.block _ (ah HR.out)).trans HR.out);obtain⟨O,P,u,Q,S,T,U,V,W⟩:=bH Z.out;clear b0)
 go_region
 all_goals go_upto_region 13 with fail
 have a6:=hid (X.out.later z.out);have C:=ah Z.out;obtain⟨L,HV⟩:=nmd (t.alloc (.cells #[.int .i64 0,.int .i64 0,.int .i64 0] 80));have a0:Hid (Below t.heap.size t L):=by rw[<-HV.out];exact aD
 have b1:Hid (L.heap[t.heap.size]?=some (.cells #[.int .i64 0,.int .i64 0,.int .i64 0] 80 (0,0))):=by rw[<-HV.out];exact aB t _
 have a7:Hid (L.heap[w.heap.size]?=some (.cells #[.int .i64 f,.int .i64 id,.int .i64 d,.int .i64 k,.int .i64 a,.bool y,.int .i64 ph,.int .i64 pr,.int .i64 pa] 125 (0,0))):=(a0.out.block _ C).trans Z.out;have b2:=hid (a6.out.later a0.out);have hV:=HV.out;have vx:=b2.out.sr.cells.1;have vc:L.cell? ⟨w.heap.size,2,none⟩=some (.int .i64 (d:Int)):=(bH a7.out).2.2.1;have b8:=a6.out.sr.lts.1;have b9:s≠t.heap.size:=Nat.ne_of_lt b8;have a1:w.heap.size≠t.heap.size:=Nat.ne_of_lt C
 go_cut [7,8]from 13 (fun s7 s8 M=>s8=.nilIface∧∃g1,s7=.pointer (some ⟨g1,0,none⟩)∧FrSt w M w.heap.size g1 f id d k a y ph pr pa sh sp sa)
 case first =>
  go_region_held3 (fun i=>i.cell? ⟨s,0,none⟩=some (.pointer (some ⟨j,0,none⟩))∧i.cell? ⟨w.heap.size,2,none⟩=some (.int .i64 (d:Int))) (first|go_keep|exact⟨pq (by assumption) b9,pq (by assumption) a1⟩) (first|(go_at_call 160;(with_reducible refine(nD j p d E over sh sp sa _ a6.out.jp.jr.drew.drew hd a9.out).mono ?_);rintro e r ⟨rfl,b⟩;have q1:=ag b K;have q2:=ag b u;have m:=hid (And.intro (z.out.drew.drew.trans (b.mono z.out.size)) ((b.block _ C).trans Z.out));have d3:=b.size;have c0:=ah m.out.2;clear b)|(go_at_call 160;(with_reducible refine(nD j p d E over sh sp sa _ b2.out.jp.jr.drew.drew hd a9.out).mono ?_);rintro e r ⟨rfl,b⟩;have q1:=ag b vx;have q2:=ag b vc;have F:=hid ((b.block _ (ah b1.out)).trans b1.out);have m:=hid (And.intro ((z.out.trans (a0.out.mono z.out.size)).drew.drew.trans (b.mono (bc z.out.size a0.out.size))) ((b.block _ (ah a7.out)).trans a7.out));have d4:r.cell? ⟨t.heap.size,0,none⟩=some (.int .i64 0):=aG _ _ 0 _ _ _ F.out;have d5:r.cell? ⟨t.heap.size,1,none⟩=some (.int .i64 0):=aG _ _ 1 _ _ _ F.out;have d6:r.cell? ⟨t.heap.size,2,none⟩=some (.int .i64 0):=aG _ _ 2 _ _ _ F.out;have d7:=aK _ _ 0 _ _ F.out;have d8:=aK _ _ 1 _ _ F.out;have d9:=aK _ _ 2 _ _ F.out;clear b))
  all_goals go_wp2_with fail
  all_goals go_meet
  ·exact⟨rfl,_,rfl,⟨m.out.1.alloc m.out.1.size _,(Below.heap_alloc r _ _ c0).trans m.out.2,aB r _,aj,c0⟩⟩
  ·exact⟨rfl,_,rfl,⟨((m.out.1.setCell (Nat.le_of_lt C) _).setCell (Nat.le_of_lt C) _).setCell (Nat.le_of_lt C) _,by rw[dS _ _ _ _ a1,dS _ _ _ _ a1,dS _ _ _ _ a1];exact m.out.2,ez F.out _ _ _,aj,C⟩⟩
 obtain⟨rfl,g1,rfl,c1⟩:=hcut;clear a0 b1 a7 b2 hV HV vx vc b8 b9 a1 C a6 Z z K x1 x2 O P u Q S T U V W HR HB hW HW b7 HF
 rename_i wc
 have m:=hid c1;clear c1;generalize wc=w2 at *
 obtain⟨O,P,u,Q,S,T,U,V,W⟩:=bH m.out.fr;obtain⟨s0,s1,s2⟩:=m.out.cells;have c2:=hid (X.out.sr.later m.out.bel);obtain⟨⟨G,H,I⟩,gk,gy⟩:=g;simp only at HO
 go_wp2_with (go_at_call 215;(with_reducible refine(ahp s j mb n d a ph sh sp sa (id:Int) (f:Int) (id:Int) (pr:Int) (pa:Int) y R _ k ⟨⟨G,H,I⟩,gk,gy⟩ c2.out hd c9 HG.out).mono ?_);rintro e r ⟨rfl,b⟩;simp only)
 have N:=hid (m.out.later b);clear b;obtain⟨b3,HX⟩:=nmd (r.alloc (.cells #[.int .i64 (G:Int),.int .i64 (H:Int),.int .i64 (I:Int)] 80));obtain⟨x,b4⟩:=nmd (r.heap.size);have D:Hid (FrSt w b3 w.heap.size x f id d k a y ph pr pa G H I):=by
  rw[<-HX.out,<-b4.out];exact⟨N.out.bel.alloc N.out.bel.size _,(Below.heap_alloc r _ _ (ah N.out.fr)).trans N.out.fr,aB r _,aj,ah N.out.fr⟩
 rw[HX.out,b4.out];clear N m HX b4 O P u Q S T U V W s0 s1 s2 c2;have a2:=hid (X.out.later D.out.bel);obtain⟨K,x1,x2⟩:=a2.out.sr.cells;have u:=(bH D.out.fr).2.2.1;obtain⟨s0,s1,s2⟩:=D.out.cells;have b5:Hid (∀Y,w.heap.size<=Y->¬In3 j p q Y):=fun Y hx e=>by
  obtain⟨_,_,e1,e2,e3⟩:=X.out.lts;unfold In3 at e;omega
 have a3:Hid (¬In3 j p q x):=b5.out _ (Nat.le_of_lt D.out.lg)
 go_cut [12]from 13 (fun d0 M=>d0=ev A o.c∧M.heap[w.heap.size]?=some (.cells #[.int .i64 f,.int .i64 id,.int .i64 d,.int .i64 k,.int .i64 a,.bool y,.int .i64 ph,.int .i64 pr,.int .i64 pa] 125 (0,0)) ∧
  M.heap[x]?=some (.cells #[.int .i64 (G:Int),.int .i64 (H:Int),.int .i64 (I:Int)] 80 (0,0))∧SP w0 M s j mb p q id R n o.e o.over o.b o.l∧Kept (In3 j p q) w M)
 case first =>
  go_region_held3 (fun i=>i.cell? ⟨s,0,none⟩=some (.pointer (some ⟨j,0,none⟩))∧i.cell? ⟨w.heap.size,2,none⟩=some (.int .i64 (d:Int))∧i.cell? ⟨x,0,none⟩=some (.int .i64 (G:Int))∧i.cell? ⟨x,1,none⟩=some (.int .i64 (H:Int))∧i.cell? ⟨x,2,none⟩=some (.int .i64 (I:Int))) (go_keep) (first|(go_at_call 216;(with_reducible refine(adV (d:Int) (G:Int) (H:Int) (I:Int) o HO.out a2.out.jp.drew HE.out HN.out).mono ?_);rintro e w5 ⟨rfl,c3,J⟩;have q1:=bG J K a2.out.ns;have q2:=bG J u (b5.out _ aj);have q3:=bG J s0 a3.out;have q4:=bG J s1 a3.out;have q5:=bG J s2 a3.out;have d1:=hid c3;have a8:=hid J;clear c3 J))
  all_goals go_wp2_with fail
  all_goals go_meet
  all_goals exact⟨rfl,a8.out.row D.out.fr (b5.out _ aj),a8.out.row D.out.st a3.out,a2.out.drew.turn d1.out a8.out,(Kept.of_below D.out.bel).trans ((Kept.of_below aF.drew).trans a8.out)⟩
 obtain⟨rfl,c4,c5,c6,c7⟩:=hcut;clear a2 K x1 x2 u s0 s1 s2 D a3 HO HG
 rename_i wc
 have d2:=hid c4;have b6:=hid c5;have a4:=hid c6;have a5:=hid c7;clear c4 c5 c6 c7;generalize wc=w6 at *
 obtain⟨oc,oe,oo,ob,ol⟩:=o;simp only at a4 a5 ⊢
 cases oc with
 | succ c =>
  unfold ev
  go_wp2_with fail
  go_ret2
  exact⟨.slice none 0 0,rfl,by unfold AnsV;rw[aa (fun h=>by cases h.1)],a4.out,a5.out,fun a c hv=>by cases hv⟩
 | zero =>
  unfold ev
  by_cases c8:gk=0
  ·subst c8
   go_wp2_with fail
   go_ret2
   exact⟨.slice none 0 0,rfl,by unfold AnsV;rw[aa (fun h=>h.2 rfl)],a4.out,a5.out,fun a c hv=>by cases hv⟩
  ·have e0:¬(gk:Int)=0:=by omega
   obtain⟨K,x1,x2⟩:=a4.out.sr.cells;obtain⟨O,P,u,Q,S,T,U,V,W⟩:=bH d2.out;have s0:w6.cell? ⟨x,0,none⟩=some (.int .i64 (G:Int)):=by rw[ai b6.out];rfl
   have s1:w6.cell? ⟨x,1,none⟩=some (.int .i64 (H:Int)):=by rw[ai b6.out];rfl
   have s2:w6.cell? ⟨x,2,none⟩=some (.int .i64 (I:Int)):=by rw[ai b6.out];rfl
   go_wp2_with fail
   go_region
   all_goals go_wp2_with fail
   all_goals go_ret2
   all_goals refine⟨_,rfl,?_,a4.out.later (aD).drew,a5.out.trans (Kept.of_below (aD).drew),fun a c hv=>by cases hv;exact a5.out.size⟩
   all_goals unfold AnsV
   all_goals rw[af ⟨rfl,c8⟩]
   all_goals exact⟨_,_,rfl,aB w6 _⟩
end Go.Proofs.YtaehdgemkafinaaGreatDoor
namespace Go.Proofs.YtaehdgemkafinaaGreatDoor
open Go.Proofs.Tryz
structure PN where
 R:Nat->Bool
 B:ByteArray
 l:Int
 over:Bool
 ld:Nat->Option (Int×PL)
structure PX where
 nd:Nat->PN
 br:Nat->Nat->Bool
 fly:List F9
 evs:List E3
def dlN(N:PN):Nat->Nat×St:=au N.B.data.toList
def stN(N:PN)(d:Nat):St:=(dlN N d).2
def upN(N:PN):Bool:=N.l != -2
def gQ(N:PN):PN:={ N with l:=-2,ld:=fun _=>none }
def aC(N:PN)(d:Nat)(x:Int×PL):PN:={ N with ld:=fun e=>if e=d then some x else N.ld e }
def aA(V:PX)(i:Nat)(N:PN):PX:={ V with nd:=fun k=>if k=i then N else V.nd k }
def aW(V:PX)(L:List F9):PX:={ V with fly:=V.fly++L }
def gHN(N:PN)(f:F9):HOut:=aO (stN N f.d.toNat) (N.R f.d.toNat) f.k.toNat f.a.toNat f.ph.toNat
def oHN(N:PN)(f:F9):POut:=ig (dlN N) N.over N.B N.l f.d.toNat (gHN N f).st.ph (gHN N f).st.pr (gHN N f).st.at_
def aM(N:PN)(f:F9):PN:=if(oHN N f).c=6 then gQ { N with B:=(oHN N f).b,over:=(oHN N f).over }else { N with B:=(oHN N f).b,l:=(oHN N f).l,over:=(oHN N f).over }
def ca(id:Nat)(N:PN)(f:F9):List F9:=if(oHN N f).c=0∧(gHN N f).k≠0 then[⟨id,f.f,f.d,(gHN N f).k,f.a,(gHN N f).yes,(gHN N f).st.ph,(gHN N f).st.pr,(gHN N f).st.at_⟩]else[]
def noteE(E:List E3)(i d was is:Nat):List E3:=if is≠was∧aT is=true∧E.length<500 then E++[⟨i,d,is⟩]else E
def aQ(V:PX)(i:Nat)(f:F9):PX:={ aA V i (aM (V.nd i) f)with evs:=noteE V.evs i f.d.toNat (stN (V.nd i) f.d.toNat).ph (stN (aM (V.nd i) f) f.d.toNat).ph }
def dH(zs:List Int)(V:PX)(i d:Nat)(f:F9):PX:=match (V.nd i).ld d with
 | none=>V
 | some x=>aA V i (aC (V.nd i) d (x.1,(aL zs i d x.1 x.2 f).1))
def dq(zs:List Int)(V:PX)(i d:Nat)(f:F9):List F9:=match (V.nd i).ld d with
 | none=>[]
 | some x=>dm i d x.1 zs.length (aL zs i d x.1 x.2 f).2
def fO(k:Int):Bool:=decide (k=2∨k=4∨k=6)
def de(zs:List Int)(V:PX)(f:F9):PX:=if fO f.k=true then dH zs V f.t.toNat f.d.toNat f else aQ V f.t.toNat f
def cX(zs:List Int)(V:PX)(f:F9):List F9:=if fO f.k=true then dq zs V f.t.toNat f.d.toNat f else ca f.t.toNat (V.nd f.t.toNat) f
def brX(V:PX)(a b:Nat):Bool:=V.br (min a b) (max a b)
def gV(V:PX)(f:F9):Bool:=upN (V.nd f.t.toNat)&&(f.f==f.t || !brX V f.f.toNat f.t.toNat)
def ay(V:PX)(k:Nat):PX:={ V with fly:=V.fly.eraseIdx k }
def aX(zs:List Int)(V:PX)(k:Nat)(f:F9):PX:=if gV V f=true then aW (de zs (ay V k) f) (cX zs (ay V k) f)else ay V k
def bN(N:PN)(d:Nat):Int:=match N.ld d with
 | none=>(stN N d).pr
 | some x=>max ((stN N d).pr:Int) x.2.seen
def ci(n s:Nat)(above:Int):Int:=above+1+((s:Int)+n-(above+1)%n)%n
def aH(s d:Nat)(a:Int):F9:=⟨s,s,d,3,a,false,0,0,0⟩
def vp(s d:Nat)(a:Int)(n:Nat):List F9:=(toL s d 3 a 0 n).eraseIdx s
def fP(zs:List Int)(s d:Nat)(a:Int):PL->List F9->PL×List F9
 | P,[]=>(P,[])
 | P,f::r=>((fP zs s d a (aL zs s d a P f).1 r).1,dm s d a zs.length (aL zs s d a P f).2++(fP zs s d a (aL zs s d a P f).1 r).2)
def ei(zs:List Int)(V:PX)(s d:Nat)(a:Int):PX:=
 if 1048576<a then V
 else if upN (aM (V.nd s) (aH s d a))=false then aQ V s (aH s d a)
 else aW (aA (aQ V s (aH s d a)) s (aC (aM (V.nd s) (aH s d a)) d (a,(fP zs s d a P0 (ca s (V.nd s) (aH s d a))).1)))
  (vp s d a zs.length++(fP zs s d a P0 (ca s (V.nd s) (aH s d a))).2)
def dy(zs:List Int)(V:PX)(s d:Nat):PX:=
 @ite PX (stN (V.nd s) d=St.zero) (ad7 _ _) V (if aT (stN (V.nd s) d).ph=true then aW V (toL s d 7 (stN (V.nd s) d).pr (stN (V.nd s) d).ph zs.length)
 else ei zs V s d (ci zs.length s (bN (V.nd s) d)))
def dJ(zs:List Int)(s:Nat):Nat->Nat->PX->PX
 | 0,_,V=>V
 | k+1,d,V=>if upN ((dy zs V s d).nd s)=true then dJ zs s k (d+1) (dy zs V s d)else dy zs V s d
def hU(n:Nat)(V:PX)(d:Nat):Bool:=(List.range n).any fun i=>((V.nd i).ld d).isSome || !(decide ((stN (V.nd i) d).ph=0∧(stN (V.nd i) d).pr=0∧(stN (V.nd i) d).at_=0))
def dP(zs:List Int)(V:PX)(s d:Nat):PX:=aW (aA V s (aC (V.nd s) d (0,P0))) (toL s d 1 0 0 zs.length)
def lZ(V:PX)(s d:Nat):PX:=aA V s { V.nd s with R:=my (V.nd s).R d }
def ik(V:PX)(k:Nat)(f:F9):PX:={ V with fly:=V.fly.take k++f::V.fly.drop k }
def eH(V:PX)(a b:Nat)(whole:Bool):PX:={ V with br:=fun x y=>if x=min a b∧y=max a b then !whole else V.br x y }
def mP(V:PX)(s:Nat)(n:Int):PX:=aA V s { V.nd s with l:=cL (V.nd s).l n }
def oI(V:PX)(s:Nat):PX:=aA V s (gQ (V.nd s))
def upX(V:PX)(s:Nat):PX:=aA V s { V.nd s with l:=-1,over:=false,R:=fun _=>false }
def jc(n:Nat):PN:=⟨fun _=>false,bQ n,-1,false,fun _=>none⟩
def dM:PX:=⟨fun _=>jc 512,fun _ _=>false,[],[]⟩
structure NI (n:Nat) (N:PN) (m:Nat):Prop where
 gd:∀d,d<6->(dlN N d).2.good
 nm:∀d,d<6->(dlN N d).1<=m
 sz:N.B.size=512
 up:N.l≠-2->N.over=false
 l0:-2<=N.l
 l1:N.l<=9223372036854775807
 ld:∀d x,N.ld d=some x->N.l≠-2∧(0<=x.1∧x.1<=1048576)∧x.2.stt<4∧(0<=x.2.seen∧x.2.seen<=1048576)∧PW n x.2
structure FI (n:Nat) (f:F9):Prop where
 f0:0<=f.f
 f1:f.f<n
 t0:0<=f.t
 t1:f.t<n
 ok:mA f.f f.t f.d f.k f.a f.ph f.pr f.pa
structure XI (zs:List Int) (V:PX) (m:Nat):Prop where
 he:bT zs=0
 nd:∀i,i<zs.length->NI zs.length (V.nd i) m
 fr:∀f,f∈V.fly->FI zs.length f
 fl:V.fly.length<=1000*m
 ev:V.evs.length<=500
end Go.Proofs.YtaehdgemkafinaaGreatDoor
namespace Go.Proofs.YtaehdgemkafinaaGreatDoor
open Go.RowKit
open Go.Proofs.Tryz
structure NB where
 nd:Nat
 s:Nat
 j:Nat
 mb:Nat
 p:Nat
 q:Nat
 lb:Nat->Nat
 b:Nat->Nat
 cap:Nat->Nat
def ldV(K:NB)(N:PN)(d:Nat):Value:=match N.ld d with
 | none=>.pointer none
 | some _=>.pointer (some ⟨K.lb d,0,none⟩)
theorem kJ{K:NB}{N:PN}{d:Nat}(h:N.ld d=none):ldV K N d=.pointer none:=by unfold ldV;rw[h]
theorem mx{K:NB}{N:PN}{d:Nat}{x:Int×PL}(h:N.ld d=some x):ldV K N d=.pointer (some ⟨K.lb d,0,none⟩):=by unfold ldV;rw[h]
def ndC(K:NB)(N:PN):List Value:=[.pointer (some ⟨K.s,0,none⟩),ldV K N 0,ldV K N 1,ldV K N 2,ldV K N 3,ldV K N 4,ldV K N 5]
structure ND (w0 w:World) (C:Nat->Nat) (K:NB) (i:Nat) (zs:List Int) (N:PN) (m:Nat):Prop where
 row:w.heap[K.nd]?=some (.cells (ndC K N).toArray 152 (0,0))
 sp:SP w0 w K.s K.j K.mb K.p K.q i N.R m (dlN N) N.over N.B N.l
 lds:∀d,d<6->∀x,N.ld d=some x->LD w (K.lb d) (K.b d) (K.cap d) i d x.1 zs x.2
 cn:C K.nd=100*i+1
 cs:C K.s=100*i+2
 cj:C K.j=100*i+3
 cm:C K.mb=100*i+4
 cp:C K.p=100*i+5
 cq:C K.q=100*i+6
 cl:∀d,d<6->∀x,N.ld d=some x->C (K.lb d)=100*i+10+d∧C (K.b d)=100*i+20+d
 n0:w0.heap.size<=K.nd
section
variable {w0 w w':World} {C C':Nat→Nat} {K:NB} {i m:Nat} {zs:List Int} {N:PN}
theorem ND.kept{S:Nat->Prop}(h:ND w0 w C K i zs N m)(k:Kept S w w')(a:∀x,x<w.heap.size->C x / 100=i->¬S x)(g:∀x,S x->w0.heap.size<=x):ND w0 w' C K i zs N m:=by
 obtain⟨j,l,n,o,p⟩:=h.sp.lts;have q:=h.cs;have r:=h.cj;have s:=h.cm;have t:=h.cp;have u:=h.cq;have v:=h.cn;refine⟨k.row h.row (a _ (ah h.row) (by omega)),h.sp.far k g ?_ (a _ j (by omega)) (a _ l (by omega)),fun c d x e=>?_,h.cn,h.cs,h.cj,h.cm,h.cp,h.cq,h.cl,h.n0⟩
 ·rintro x (rfl|rfl|rfl)
  ·exact a _ n (by omega)
  ·exact a _ o (by omega)
  ·exact a _ p (by omega)
 ·have y:=h.cl c d x e
  have b:=h.lds c d x e;have f:=ah b.row;exact b.kept k (a _ f (by omega)) (a _ (Nat.lt_trans b.bl f) (by omega))
theorem ND.later(h:ND w0 w C K i zs N m)(b:Below w.heap.size w w'):ND w0 w' C K i zs N m:=
 h.kept (S:=fun _=>False) (Kept.of_below b) (fun _ _ _ a=>a) (fun _ a=>a.elim)
theorem ND.col(h:ND w0 w C K i zs N m)(a:∀x,x<w.heap.size->C' x=C x):ND w0 w C' K i zs N m:=by
 obtain⟨j,k,l,n,o⟩:=h.sp.lts;refine⟨h.row,h.sp,h.lds,(a _ (ah h.row)).trans h.cn,(a _ j).trans h.cs,(a _ l).trans h.cj,(a _ k).trans h.cm,(a _ n).trans h.cp,(a _ o).trans h.cq,fun b c x d=>?_,h.n0⟩;have e:=h.cl b c x d;have f:=h.lds b c x d;have g:=ah f.row;exact⟨(a _ g).trans e.1,(a _ (Nat.lt_trans f.bl g)).trans e.2⟩
theorem ND.mono{k:Nat}(h:ND w0 w C K i zs N m)(a:m<=k):ND w0 w C K i zs N k:=⟨h.row,h.sp.mono a,h.lds,h.cn,h.cs,h.cj,h.cm,h.cp,h.cq,h.cl,h.n0⟩
theorem ND.cell(h:ND w0 w C K i zs N m)(j:Nat):w.cell? ⟨K.nd,j,none⟩=(ndC K N)[j]?:=by
 rw[aG w K.nd j _ _ _ h.row,List.getElem?_toArray]
theorem ND.site(h:ND w0 w C K i zs N m):w.cell? ⟨K.nd,0,none⟩=some (.pointer (some ⟨K.s,0,none⟩)):=h.cell 0
theorem ND.lead(h:ND w0 w C K i zs N m){d:Nat}(a:d<6):w.cell? ⟨K.nd,1+d,none⟩=some (ldV K N d):=by
 rw[h.cell];rcases six a with rfl|rfl|rfl|rfl|rfl|rfl<;>rfl
theorem ND.fz(h:ND w0 w C K i zs N m)(j:Nat):w.frozen? ⟨K.nd,j,none⟩=false:=aK w K.nd j _ _ h.row
theorem ND.way(h:ND w0 w C K i zs N m):w.cell? ⟨K.nd,0,none⟩=some (.pointer (some ⟨K.s,0,none⟩))∧w.cell? ⟨K.s,0,none⟩=some (.pointer (some ⟨K.j,0,none⟩))∧w.cell? ⟨K.j,0,none⟩=some (.pointer (some ⟨K.p,0,none⟩)):=
 ⟨h.site,h.sp.sr.cells.1,h.sp.jp.jr.plate⟩
end
structure XB where
 xb:Nat
 wb:Nat
 wc:Nat
 nb:Nat
 nc:Nat
 mb:Nat
 fv:Value
 ev:Value
 K:Nat->NB
def wdC(X:XB)(n:Nat):List Value:=[.slice (some ⟨X.wb,0,none⟩) n X.wc,.slice (some ⟨X.nb,0,none⟩) n X.nc,.map (some X.mb),X.fv,X.ev]
def gD(a b:Nat):Value:=.agg #[.int .i64 (a:Int),.int .i64 (b:Int)]
structure WD (w0 w:World) (C:Nat->Nat) (X:XB) (zs:List Int) (V:PX) (m:Nat):Prop where
 bel:Below w0.heap.size w0 w
 row:w.heap[X.xb]?=some (.cells (wdC X zs.length).toArray 148 (0,0))
 ws:∀i,i<zs.length->w.cell? ⟨X.wb,0+i,none⟩=some (.int .i64 (zs.getD i 0))
 ns:∀i,i<zs.length->w.cell? ⟨X.nb,i,none⟩=some (.pointer (some ⟨(X.K i).nd,0,none⟩))
 nds:∀i,i<zs.length->ND w0 w C (X.K i) i zs (V.nd i) m
 brk:∃D:DataW Unit,w.ownsMap prog 172 unitElem X.mb m D∧∀a b,a<7->b<7->∀l,keyOf prog 172 (gD a b)=some l->Maps.has D l=V.br a b
 fly:OwnF w w0.heap.size X.fv V.fly
 evs:w.ownsRow w0.heap.size 180 3 X.ev V.evs.length (bu V.evs)
 cx:C X.xb=1001
 cw:C X.wb=1002
 cn:C X.nb=1003
 cm:C X.mb=1004
 cf:∀g,X.fv.ownBlock=some g->C g=1005
 ce:∀g,X.ev.ownBlock=some g->C g=1006
 lt:∀x,C x<2000->x<w.heap.size
 low:∀x,C x<2000->w0.heap.size<=x
 inv:XI zs V m
theorem aV{S:Nat->Prop}{w w':World}{e:TypeId}{size n base:Nat}{v:Value}{xs:List Value}(h:w.ownsRow base e size v n xs)(k:Kept S w w')(a:∀g,v.ownBlock=some g->¬S g):w'.ownsRow base e size v n xs:=by
 refine⟨h.1,?_⟩;rcases h.2 with b|⟨g,cap,c,rfl,d,f,rest⟩
 ·exact .inl b
 ·exact .inr ⟨g,cap,c,rfl,d,k.row f (a g rfl),rest⟩
theorem aI{S:Nat->Prop}{w w':World}{a:Addr}{v:Value}(h:w.cell? a=some v)(k:Kept S w w')(b:¬S a.block):w'.cell? a=some v:=by
 have c:=bY h;unfold World.cell? at h ⊢;rw[k.block _ c b];exact h
section
variable {w0 w w':World} {C C':Nat→Nat} {X:XB} {m:Nat} {zs:List Int} {V V':PX}
theorem WD.n7(h:WD w0 w C X zs V m):1<=zs.length∧zs.length<=7:=⟨(bp h.inv.he).1,(bp h.inv.he).2.1⟩
theorem WD.later(h:WD w0 w C X zs V m)(e:Below w.heap.size w w'):WD w0 w' C X zs V m:=by
 have b:Kept (fun _=>False) w w':=Kept.of_below e;obtain⟨f,g,i⟩:=h.brk;exact⟨h.bel.trans (e.mono h.bel.size),b.row h.row (fun a=>a),fun c d=>aI (h.ws c d) b (fun a=>a),fun c d=>aI (h.ns c d) b (fun a=>a),fun c d=>(h.nds c d).later e,
  ⟨f,fB g b (fun a=>a),i⟩,h.fly.kept b (fun _ _ a=>a),aV h.evs b (fun _ _ a=>a),h.cx,h.cw,h.cn,h.cm,h.cf,h.ce,fun a j=>bm (h.lt a j) e.size,h.low,h.inv⟩
theorem WD.drew(h:WD w0 w C X zs V m):WD w0 w.drew C X zs V m:=h.later aF.drew
theorem WD.cell(h:WD w0 w C X zs V m)(j:Nat):w.cell? ⟨X.xb,j,none⟩=(wdC X zs.length)[j]?:=by
 rw[aG w X.xb j _ _ _ h.row,List.getElem?_toArray]
theorem WD.cells(h:WD w0 w C X zs V m):w.cell? ⟨X.xb,0,none⟩=some (.slice (some ⟨X.wb,0,none⟩) zs.length X.wc)∧w.cell? ⟨X.xb,1,none⟩=some (.slice (some ⟨X.nb,0,none⟩) zs.length X.nc)∧w.cell? ⟨X.xb,2,none⟩=some (.map (some X.mb))∧w.cell? ⟨X.xb,3,none⟩=some X.fv∧w.cell? ⟨X.xb,4,none⟩=some X.ev:=
 ⟨h.cell 0,h.cell 1,h.cell 2,h.cell 3,h.cell 4⟩
theorem WD.fz(h:WD w0 w C X zs V m)(j:Nat):w.frozen? ⟨X.xb,j,none⟩=false:=aK w X.xb j _ _ h.row
def di(C:Nat->Nat)(x:Nat):Prop:=C x<2000
theorem WD.held{A:Nat->Addr}(h:WD w0 w C X zs V m)(a:Held9 w0 A):Held9 w A:=a.later h.bel
theorem WD.node{S:Nat->Prop}{i m':Nat}{N:PN}{K:NB}(h:WD w0 w C X zs V m)(k:Kept S w w')(D:i<zs.length)(o:∀x,S x->C x / 100=i)(l:∀x,x<w.heap.size->C' x=C x)(r:∀x,w.heap.size<=x->C' x<2000->x<w'.heap.size)(s:ND w0 w' C' K i zs N m')(t:K.nd=(X.K i).nd)(p:m<=m')(u:XI zs (aA V i N) m'):WD w0 w' C' { X with K:=fun e=>if e=i then K else X.K e } zs (aA V i N) m':=by
 have E:=h.n7.2;have F:=h.bel.size;have q:∀x,S x->w0.heap.size<=x:=fun x b=>h.low x (by have:=o x b;omega)
 have c:∀x,C x / 100≠i->¬S x:=fun x b v=>b (o x v)
 obtain⟨y,z,A⟩:=h.brk;have G:=h.cx;have H:=h.cw;have I:=h.cn;have J:=h.cm;have f:∀{x n:Nat},C x=n->n<2000->C' x=n:=fun {x n} e L=>(l x (h.lt x (by omega))).trans e
 refine⟨k.below h.bel.size q h.bel,k.row h.row (c X.xb (by omega)),fun e j=>aI (h.ws e j) k (c _ (by show C X.wb / 100≠i;omega)),fun e j=>?_,fun e j=>?_,
  ⟨y,(fB z k (c X.mb (by omega))).mono p,A⟩,h.fly.kept k (fun a d=>c a (by have:=h.cf a d;omega)),aV h.evs k (fun a d=>c a (by have:=h.ce a d;omega)),f h.cx (by omega),f h.cw (by omega),f h.cn (by omega),f h.cm (by omega),fun a d=>f (h.cf a d) (by omega),fun a d=>f (h.ce a d) (by omega),fun x b=>?_,fun x b=>?_,u⟩
 ·have:=aI (h.ns e j) k (c _ (by show C X.nb / 100≠i;omega))
  rw[this]
  by_cases a:e=i
  ·subst a;simp[t]
  ·simp[a]
 ·by_cases a:e=i
  ·subst a
   simpa [aA]using s
  ·have:=(((h.nds e j).col l).kept k (fun x B b=>c x (by rw[<-l x B];omega)) q).mono p
   simpa [aA,a]using this
 ·rcases bU x w.heap.size with g|g
  ·exact bm g k.size
  ·exact r x g b
 ·rcases bU x w.heap.size with g|g
  ·exact h.low x (by rw[<-l x g];exact b)
  ·omega
theorem WD.grow(h:WD w0 w C X zs V m)(e:Below w.heap.size w w')(f:∀x,x<w.heap.size->C' x=C x)(j:∀x,w.heap.size<=x->C' x<2000->x<w'.heap.size):WD w0 w' C' X zs V m:=by
 have a:=h.later e;obtain⟨k,l,n⟩:=a.brk;have r:=h.bel.size;have b:∀{x d:Nat},C x=d->d<2000->C' x=d:=fun {x d} o s=>(f x (h.lt x (by omega))).trans o
 refine⟨a.bel,a.row,a.ws,a.ns,fun p q=>((h.nds p q).col f).later e,⟨k,l,n⟩,a.fly,a.evs,b h.cx (by omega),b h.cw (by omega),b h.cn (by omega),b h.cm (by omega),fun a g=>b (h.cf a g) (by omega),fun a g=>b (h.ce a g) (by omega),fun x i=>?_,fun x i=>?_,h.inv⟩
 ·rcases bU x w.heap.size with c|c
  ·exact bm c e.size
  ·exact j x c i
 ·rcases bU x w.heap.size with c|c
  ·exact h.low x (by rw[<-f x c];exact i)
  ·omega
def bV(C:Nat->Nat)(x c:Nat):Nat->Nat:=fun y=>if y=x then c else C y
theorem bw(C:Nat->Nat)(x c:Nat):bV C x c x=c:=af rfl
theorem aq{C:Nat->Nat}{x c y:Nat}(h:y≠x):bV C x c y=C y:=aa h
theorem WD.own{fv ev:Value}{F:List F9}{E:List E3}{m':Nat}{S:Nat->Prop}(h:WD w0 w C X zs V m)(k:Kept S w w')(l:∀x,S x->C x=1001∨C x=1005∨C x=1006)(e:∀x,x<w.heap.size->C' x=C x)(p:∀x,w.heap.size<=x->C' x<2000->x<w'.heap.size)(q:w'.heap[X.xb]?=some (.cells (wdC { X with fv:=fv,ev:=ev } zs.length).toArray 148 (0,0)))(r:OwnF w' w0.heap.size fv F)(a:w'.ownsRow w0.heap.size 180 3 ev E.length (bu E))(s:∀g,fv.ownBlock=some g->C' g=1005)(t:∀g,ev.ownBlock=some g->C' g=1006)(n:m<=m')(u:XI zs { V with fly:=F,evs:=E } m'):WD w0 w' C' { X with fv:=fv,ev:=ev } zs { V with fly:=F,evs:=E } m':=by
 have D:=h.n7.2;have G:=h.bel.size;have o:∀x,S x->w0.heap.size<=x:=fun x b=>h.low x (by rcases l x b with g|g|g<;>omega)
 have f:∀x,C x≠1001->C x≠1005->C x≠1006->¬S x:=fun x H I J v=>by rcases l x v with g|g|g<;>omega
 obtain⟨y,z,A⟩:=h.brk;have K:=h.cx;have L:=h.cw;have M:=h.cn;have N:=h.cm;have i:∀{x j:Nat},C x=j->j<2000->C' x=j:=fun {x j} c O=>(e x (h.lt x (by omega))).trans c
 refine⟨k.below h.bel.size o h.bel,q,fun c a=>aI (h.ws c a) k (f _ (by show C X.wb≠_;omega) (by show C X.wb≠_;omega) (by show C X.wb≠_;omega)),fun c a=>aI (h.ns c a) k (f _ (by show C X.nb≠_;omega) (by show C X.nb≠_;omega) (by show C X.nb≠_;omega)),fun c a=>(((h.nds c a).col e).kept k (fun x B b=>by rw[e x B]at b;exact f x (by omega) (by omega) (by omega)) o).mono n,
  ⟨y,(fB z k (f X.mb (by omega) (by omega) (by omega))).mono n,A⟩,r,a,i h.cx (by omega),i h.cw (by omega),i h.cn (by omega),i h.cm (by omega),s,t,fun x b=>?_,fun x b=>?_,u⟩
 ·rcases bU x w.heap.size with d|d
  ·exact bm d k.size
  ·exact p x d b
 ·rcases bU x w.heap.size with d|d
  ·exact h.low x (by rw[<-e x d];exact b)
  ·omega
end
section
variable {w0 w:World} {C:Nat→Nat} {X:XB} {m:Nat} {zs:List Int} {V:PX} {A:Nat→Addr}
theorem lS(s:Int)(b:Bool)(h:WD w0 w C X zs V m)(f:decide (0<=s∧s<zs.length)=b):Calls prog 118 #[.pointer (some ⟨X.xb,0,none⟩),.int .i64 s] w fun e w'=>e=.returned (.bool b)∧w'=w:=by
 obtain⟨-,j,-,-,-⟩:=h.cells;have k:=h.n7;obtain⟨a,g⟩:∃a,zs.length=a:=⟨_,rfl⟩;rw[g]at j k f;clear h g;subst f
 by_cases c:0<=s
 ·by_cases i:s<a
  ·have e:decide (0<=s∧s<a)=true:=bo ⟨c,i⟩
   rw[e];clear e
   go_enter func118,ntmps118
   go_wp2_with fail
   go_ret
   exact⟨rfl,rfl⟩
  ·have e:decide (0<=s∧s<a)=false:=aS (fun d=>i d.2)
   rw[e];clear e
   go_enter func118,ntmps118
   go_wp2_with fail
   go_ret
   exact⟨rfl,rfl⟩
 ·have e:decide (0<=s∧s<a)=false:=aS (fun d=>c d.1)
  have l:decide (0<=s)=false:=aS c;rw[e];clear e
  go_enter func118,ntmps118
  go_wp2_with fail
  go_ret
  exact⟨rfl,rfl⟩
theorem ki(s:Int)(h:WD w0 w C X zs V m)(a:Held9 w0 A)(b:¬(0<=s∧s<zs.length)):Calls prog 107 #[.pointer (some ⟨X.xb,0,none⟩),.int .i64 s] w fun e w'=>e=.returned (.tuple #[.pointer none,.iface 318 (.pointer (some (A 1)))])∧Below w.heap.size w w':=by
 have d:=hid h;have c:=aS b;have i:=(h.held a).g1;clear h a b;have f:=hid c;clear c
 go_enter func107,ntmps107
 go_wp2_with fail
 refine(lS s false d f).mono ?_;rintro e g ⟨rfl,j⟩;subst g
 go_wp2_with fail
 go_quiet (fail)
 go_wp2
 go_ret2
 exact⟨rfl,aJ aF _⟩
theorem hQ(s:Nat)(h:WD w0 w C X zs V m)(a:s<zs.length):Calls prog 107 #[.pointer (some ⟨X.xb,0,none⟩),.int .i64 (s:Int)] w fun e w'=>e=.returned (.tuple #[.pointer (some ⟨(X.K s).nd,0,none⟩),.nilIface])∧w'=w:=by
 have c:=hid h;have d:Hid (decide (0<=(s:Int)∧(s:Int)<zs.length)=true):=bo (by omega);obtain⟨-,f,-,-,-⟩:=h.cells;have k:=h.ns s a;have g:=h.n7;obtain⟨b,i⟩:=nmd (zs.length);rw[i.out]at f g a;clear h
 go_enter func107,ntmps107
 go_wp2_with fail
 refine(lS (s:Int) true c d).mono ?_;rintro e j ⟨rfl,l⟩;subst j
 go_wp2_with fail
 go_ret2
 exact⟨rfl,rfl⟩
theorem jO(s d:Int)(h:WD w0 w C X zs V m)(a:Held9 w0 A)(b:¬((0<=s∧s<zs.length)∧0<=d∧d<6)):Calls prog 101 #[.pointer (some ⟨X.xb,0,none⟩),.int .i64 s,.int .i64 d] w fun e w'=>e=.returned (.tuple #[.pointer none,.iface 318 (.pointer (some (A 1)))])∧Below w.heap.size w w':=by
 have f:=hid h;have g:=hid a;have o:=(h.held a).g1
 by_cases i:0<=d
 ·by_cases j:d<6
  ·have k:Hid (¬(0<=s∧s<zs.length)):=fun l=>b ⟨l,i,j⟩
   clear h b a
   go_enter func101,ntmps101
   go_wp2_with fail
   refine(ki s f g k).mono ?_;rintro e p ⟨rfl,c⟩;have n:=hid c;clear c
   go_wp2_with fail
   go_ret2
   exact⟨rfl,n⟩
  ·clear h b a
   go_enter func101,ntmps101
   go_wp2_with fail
   go_quiet (fail)
   go_wp2
   go_ret2
   exact⟨rfl,aJ aF _⟩
 ·have q:d<0:=by omega
  clear h b a
  go_enter func101,ntmps101
  go_wp2_with fail
  go_quiet (fail)
  go_wp2
  go_ret2
  exact⟨rfl,aJ aF _⟩
theorem fu(s d:Nat)(h:WD w0 w C X zs V m)(a:s<zs.length)(g:d<6):Calls prog 101 #[.pointer (some ⟨X.xb,0,none⟩),.int .i64 (s:Int),.int .i64 (d:Int)] w fun e w'=>e=.returned (.tuple #[.pointer (some ⟨(X.K s).nd,0,none⟩),.nilIface])∧w'=w:=by
 have b:=hid h;have c:=hid a;have i:¬(d:Int)<0:=by omega
 have j:¬6<=(d:Int):=by omega
 clear h a
 go_enter func101,ntmps101
 go_wp2_with fail
 refine(hQ s b c).mono ?_;rintro e f ⟨rfl,k⟩;subst f
 go_wp2_with fail
 go_ret2
 exact⟨rfl,rfl⟩
theorem jD(v:Value)(a:Addr):Calls prog 100 #[v,.iface 318 (.pointer (some a))] w fun e w'=>e=.returned (.tuple #[.pointer none,.iface 318 (.pointer (some a))])∧w'=w:=by
 go_enter func100,ntmps100
 go_wp2_with fail
 go_ret2
 exact⟨rfl,rfl⟩
theorem fm{K:NB}{i:Nat}{N:PN}(b:Bool)(h:ND w0 w C K i zs N m)(c:Held9 w A)(d:(N.l != -2)=b):Calls prog 100 #[.pointer (some ⟨K.nd,0,none⟩),.nilIface] w fun e w'=>e=.returned (.tuple #[if b=true then .pointer (some ⟨K.nd,0,none⟩)else .pointer none,if b=true then .nilIface else .iface 318 (.pointer (some (A 5)))])∧Below w.heap.size w w':=by
 have f:=hid h.sp.jp.pl;obtain⟨k,l,n⟩:=h.way;have o:=c.g5;have g:=hid d;clear h c d
 cases b with
 | true =>
  go_enter func100,ntmps100
  go_wp2_with fail
  refine(fs K.p K.q N.B N.l w f).mono ?_;rintro e a ⟨rfl,j⟩;subst a;rw[g.out]
  go_wp2_with fail
  go_ret2
  exact⟨rfl,aF⟩
 | false =>
  go_enter func100,ntmps100
  go_wp2_with fail
  refine(fs K.p K.q N.B N.l w f).mono ?_;rintro e a ⟨rfl,j⟩;subst a;rw[g.out]
  go_wp2_with fail
  go_quiet (fail)
  go_wp2
  go_ret2
  exact⟨rfl,aJ aF _⟩
theorem ju(s:Int)(b:Bool)(h:WD w0 w C X zs V m)(i:decide (0<=s∧s<V.fly.length)=b):Calls prog 113 #[.pointer (some ⟨X.xb,0,none⟩),.int .i64 s] w fun e w'=>e=.returned (.bool b)∧w'=w:=by
 obtain⟨-,-,-,l,-⟩:=h.cells;obtain⟨a,c⟩:∃a,V.fly.length=a:=⟨_,rfl⟩;have d:∃j cap,X.fv=.slice j a cap:=by
  rw[<-c];exact h.fly.form
 obtain⟨j,cap,d⟩:=d;rw[d]at l;rw[c]at i;clear h c;subst i
 by_cases f:0<=s
 ·by_cases k:s<a
  ·have e:decide (0<=s∧s<a)=true:=bo ⟨f,k⟩
   rw[e];clear e
   go_enter func113,ntmps113
   go_wp2_with fail
   go_ret
   exact⟨rfl,rfl⟩
  ·have e:decide (0<=s∧s<a)=false:=aS (fun g=>k g.2)
   rw[e];clear e
   go_enter func113,ntmps113
   go_wp2_with fail
   go_ret
   exact⟨rfl,rfl⟩
 ·have e:decide (0<=s∧s<a)=false:=aS (fun g=>f g.1)
  have n:decide (0<=s)=false:=aS f;rw[e];clear e
  go_enter func113,ntmps113
  go_wp2_with fail
  go_ret
  exact⟨rfl,rfl⟩
end
theorem jU(p:Nat)(b:Bool)(w:World)(a:aT p=b):Calls prog 109 #[.int .i64 (p:Int)] w fun e w'=>e=.returned (.bool b)∧w'=w:=by
 subst a;unfold aT
 by_cases c:p=2
 ·subst c
  go_enter func109,ntmps109
  go_wp2_with fail
  go_ret
  exact⟨rfl,rfl⟩
 ·by_cases d:p=3
  ·subst d
   go_enter func109,ntmps109
   go_wp2_with fail
   go_ret
   exact⟨rfl,rfl⟩
  ·have e:decide (p=2∨p=3)=false:=aS (by omega)
   have f:¬(p:Int)=2:=by omega
   have g:¬(p:Int)=3:=by omega
   rw[e];clear e;have h:((p:Int)==2)=false:=beq_eq_false_iff_ne.2 f;have i:((p:Int)==3)=false:=beq_eq_false_iff_ne.2 g
   go_enter func109,ntmps109
   go_wp2_with fail
   go_ret
   exact⟨rfl,rfl⟩
theorem ub{w:World}{s j y p n:Nat}{id:Int}{R:Nat->Bool}{E:Nat->Nat×St}{over:Bool}(d h1 f g:Nat)(m:JR w j p E over)(h:SR w s j y id R n)(z:d<6)(t:(E d).2=⟨h1,f,g⟩):Calls prog 108 #[.pointer (some ⟨s,0,none⟩),.int .i64 (d:Int)] w fun e w'=>e=.returned (agS h1 f g)∧Below w.heap.size w w':=by
 obtain⟨i,o⟩:=nmd (w.alloc (.cells #[iV 0,iV 0,iV 0] 80));have k:Hid (bW w i):=by rw[<-o.out];exact aD
 have u:Hid (i.heap[w.heap.size]?=some (.cells #[iV 0,iV 0,iV 0] 80 (0,0))):=by rw[<-o.out];exact aB w _
 have A:=hid (m.later k.out m.lt);have B:=hid (h.later k.out);have C:=hid t;have F:=o.out;clear m h t
 go_enter func108,ntmps108
 go_wp2_with (go_at_call 161;(with_reducible refine(abr d h1 f g A.out B.out z C.out).mono ?_);rintro e b ⟨rfl,q⟩;have v:=hid ((q.block _ (ah u.out)).trans u.out);have x:=hid (k.trans (q.mono k.size));clear q;obtain⟨a,l⟩:=nmd (b.alloc (.cells #[iV (h1:Int),iV (f:Int),iV (g:Int)] 80));have G:=l.out;have c:Hid (a.heap[w.heap.size]?=some (.cells #[iV 0,iV 0,iV 0] 80 (0,0))):=hid (by rw[<-l.out];exact(Below.heap_alloc b _ _ (ah v.out)).trans v.out);have r:Hid (a.heap[b.heap.size]?=some (.cells #[iV (h1:Int),iV (f:Int),iV (g:Int)] 80 (0,0))):=hid (by rw[<-l.out];exact aB b _);have D:Hid (bW w a):=hid (by rw[<-l.out];exact x.alloc x.size _);have H:a.cell? ⟨w.heap.size,0,none⟩=some (iV 0):=(aG _ _ 0 _ _ _ c.out);have I:a.cell? ⟨w.heap.size,1,none⟩=some (iV 0):=(aG _ _ 1 _ _ _ c.out);have J:a.cell? ⟨w.heap.size,2,none⟩=some (iV 0):=(aG _ _ 2 _ _ _ c.out);have K:=aK _ _ 0 _ _ c.out;have L:=aK _ _ 1 _ _ c.out;have M:=aK _ _ 2 _ _ c.out;have N:a.cell? ⟨b.heap.size,0,none⟩=some (iV (h1:Int)):=(aG _ _ 0 _ _ _ r.out);have O:a.cell? ⟨b.heap.size,1,none⟩=some (iV (f:Int)):=(aG _ _ 1 _ _ _ r.out);have P:a.cell? ⟨b.heap.size,2,none⟩=some (iV (g:Int)):=(aG _ _ 2 _ _ _ r.out))
 refine bh (results_cell_row rfl _ _ w.heap.size 80 _ (0,0) _ rfl (ez c.out _ _ _) underlying80 rfl bk) rfl ?_;exact⟨rfl,((D.setCell aj _).setCell aj _).setCell aj _⟩
end Go.Proofs.YtaehdgemkafinaaGreatDoor
