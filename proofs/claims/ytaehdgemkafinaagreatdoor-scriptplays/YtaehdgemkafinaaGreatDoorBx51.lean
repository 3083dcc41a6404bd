/-
  On the way to SPlaysProof: O38 O39.
-/
import Derived.Test.YtaehdgemkafinaaGreatDoorBx50
import Derived.Test.YtaehdgemkafinaaGreatDoorBx47
set_option maxHeartbeats 8000000
set_option maxRecDepth 100000
namespace Go.Proofs.YtaehdgemkafinaaGreatDoor
open Go.RowKit
open Go.Proofs.Tryz
section
variable {w0 w w1 U:World} {wd:ByteArray} {v:Value} {C:Nat→Nat} {Y:YB} {aw:Option Addr} {cap m M i f:Nat} {ar:Array Value} {zs:List Int} {V V':PX}
theorem ROut.from(a:Below w.heap.size w U)(h:ROut w0 U w1 C Y aw cap zs V M):ROut w0 w w1 C Y aw cap zs V M:=ROut.step rfl (Kept.of_below a) (fun _ _=>rfl) h
theorem ROut.cell(h:ROut w0 U w1 C Y aw cap zs V M){p:Addr}{a:Value}(b:U.cell? p=some a)(e:2000<=C p.block):w1.cell? p=some a:=by
 obtain⟨g,j,-,-,c,-⟩:=h;exact aI b c (fun d=>by have k:C p.block<2000:=d;omega)
theorem RW.newC(h:RW w0 w C Y aw cap zs V m):2000<=C w.heap.size:=by
 rcases bU (C w.heap.size) 2000 with a|a
 ·have:=h.lt _ a;omega
 ·exact a
theorem RW.lowC(h:RW w0 w C Y aw cap zs V m){g:Nat}(b:g<w0.heap.size):2000<=C g:=by
 rcases bU (C g) 2000 with a|a
 ·have:=h.low _ a;omega
 ·exact a
theorem tT{a b:Int}(h:IsSl w0 v [a,b]):∃g o c,v=.slice (some ⟨g,o,none⟩) 2 c∧w0.cell? ⟨g,o,none⟩=some (.int .i64 a)∧w0.cell? ⟨g,o+1,none⟩=some (.int .i64 b)∧g<w0.heap.size:=by
 obtain⟨n,c,j,-,-,k⟩:=h;obtain⟨g,o,rfl,d⟩:=k (Nat.succ_pos _);have e:=d 0 (Nat.succ_pos _);have l:=d 1 (by simp);exact⟨g,o,c,j,e,l,bY e⟩
theorem abq{a:Int}(h:IsSl w0 v [a]):∃g o c,v=.slice (some ⟨g,o,none⟩) 1 c∧w0.cell? ⟨g,o,none⟩=some (.int .i64 a)∧g<w0.heap.size:=by
 obtain⟨k,c,d,-,-,e⟩:=h;obtain⟨g,o,rfl,j⟩:=e (Nat.succ_pos _);have b:=j 0 (Nat.succ_pos _);exact⟨g,o,c,d,b,bY b⟩
def jz(w0 w:World)(C:Nat->Nat)(Y:YB)(aw:Option Addr)(cap:Nat)(zs:List Int)(V:PX)(m i:Nat)(ns:List Int)(e:Ending)(w':World):Prop:=
 e=.returned (.string (bB (gu (cz (some (zs,V)) i ns).1)))∧∃V',(cz (some (zs,V)) i ns).2=some (zs,V')∧AX zs V'∧ROut w0 w w' C Y aw cap zs V' (m+9000)
theorem xX(p q:Nat)(a:Bool){r:Nat×PX}(b:r=if(p:Int)<zs.length∧(q:Int)<zs.length then(0,eH V p q a)else(2,V))(h:RW w0 U C Y aw cap zs V m)(d:m<900000):Calls prog 30 #[.pointer (some ⟨Y.xb,0,none⟩),.int .i64 (p:Int),.int .i64 (q:Int),.bool a] U fun e w'=>e=.returned (.int .i64 (r.1:Int))∧ROut w0 U w' C Y aw cap zs r.2 (m+9000):=by
 by_cases c:(p:Int)<zs.length∧(q:Int)<zs.length
 ·rw[af c]at b
  subst b;exact(aeN p q a h (by omega) (by omega) (by omega)).mono fun e w' r=>⟨r.1,r.2.mono (by omega)⟩
 ·rw[aa c]at b
  subst b;exact(aeY (p:Int) (q:Int) a h (by omega)).mono fun e w' r=>⟨r.1,by rw[r.2];exact h.out aF (by omega)⟩
theorem ahC{a b:Int}(j:aeD Y.xb a b i f ar)(h:RW w0 U C Y aw cap zs V m)(d:m<900000)(k:0<=a)(l:0<=b)(n:b<=99999):Calls prog f ar U fun e w'=>e=.returned (.int .i64 ((opP zs V i a b).1:Int))∧ROut w0 U w' C Y aw cap zs (opP zs V i a b).2 (m+9000):=by
 obtain⟨g,rfl⟩:=bD k;obtain⟨c,rfl⟩:=bD l;rcases j with⟨rfl,rfl,rfl⟩|⟨rfl,rfl,rfl⟩|⟨rfl,rfl,rfl⟩|⟨rfl,rfl,rfl⟩|⟨rfl,rfl,rfl⟩
 ·exact(zE _ _ _ h (by omega) rfl).mono fun e w' c=>⟨c.1,c.2.mono (by omega)⟩
 ·exact(wI _ _ _ h rfl).mono fun e w' c=>⟨c.1,c.2.mono (by omega)⟩
 ·exact xX g c true rfl h d
 ·exact xX g c false rfl h d
 ·exact(aeb _ _ _ h (by omega) rfl).mono fun e w' c=>⟨c.1,c.2.mono (by omega)⟩
theorem aii{a b:Int}(n:ae8 Y.xb a i f ar)(h:RW w0 U C Y aw cap zs V m)(p:m<900000)(o:0<=a):Calls prog f ar U fun e w'=>e=.returned (.int .i64 ((opP zs V i a b).1:Int))∧ROut w0 U w' C Y aw cap zs (opP zs V i a b).2 (m+9000):=by
 obtain⟨d,rfl⟩:=bD o;have k:∀(j:F9->Nat×PX) (g:d<V.fly.length),(match V.fly[d]? with|some f=>j f|none=>(4,V))=j (V.fly[d]'g):=fun j g=>by rw[cG g]
 have l:∀(j:F9->Nat×PX),¬d<V.fly.length->(match V.fly[d]? with|some f=>j f|none=>(4,V))=(4,V):=fun j g=>by rw[List.getElem?_eq_none (by omega)]
 rcases n with⟨rfl,rfl,rfl⟩|⟨rfl,rfl,rfl⟩|⟨rfl,rfl,rfl⟩|⟨rfl,rfl,rfl⟩|⟨rfl,rfl,rfl⟩|⟨rfl,rfl,rfl⟩
 ·exact(abe _ _ h (by omega) rfl).mono fun e w' c=>⟨c.1,c.2.mono (by omega)⟩
 ·exact(abs _ _ h rfl).mono fun e w' c=>⟨c.1,c.2.mono (by omega)⟩
 ·exact(abP _ _ h rfl).mono fun e w' c=>⟨c.1,c.2.mono (by omega)⟩
 ·rw[show opP zs V 4 (d:Int) b=(match V.fly[d]? with|some f=>(0,aX zs V d f)|none=>(4,V))from rfl]
  by_cases g:d<V.fly.length
  ·rw[k _ g]
   exact(pn d _ h g rfl (by omega)).mono fun e w' c=>⟨c.1,c.2.mono (by omega)⟩
  ·rw[l _ g]
   exact(oX (d:Int) h (by omega) (by omega)).mono fun e w' c=>⟨c.1,h.out c.2 (by omega)⟩
 ·rw[show opP zs V 5 (d:Int) b=(if d<V.fly.length then(0,ay V d)else(4,V))from rfl]
  by_cases g:d<V.fly.length
  ·rw[af g]
   exact(ad8 d h g (by omega)).mono fun e w' c=>⟨c.1,c.2.mono (by omega)⟩
  ·rw[aa g]
   exact(adi (d:Int) h (by omega) (by omega)).mono fun e w' c=>⟨c.1,h.out c.2 (by omega)⟩
 ·rw[show opP zs V 6 (d:Int) b=(match V.fly[d]? with|some f=>(0,ik V d f)|none=>(4,V))from rfl]
  by_cases g:d<V.fly.length
  ·rw[k _ g]
   exact(abM d _ h g rfl (by omega)).mono fun e w' c=>⟨c.1,c.2.mono (by omega)⟩
  ·rw[l _ g]
   exact(acf (d:Int) h (by omega) (by omega)).mono fun e w' c=>⟨c.1,by rw[c.2];exact h.out aF (by omega)⟩
theorem nP{a b:Int}(s:∀xb,∃f ar,aeD xb a b i f ar)(t:fD wd i)(c:RW w0 w C Y aw cap zs V m)(u:AX zs V)(E:m<800000)(x:IsSl w0 v [a,b])(k:0<=a)(l:0<=b)(y:b<=99999):Calls prog 16 #[.pointer (some ⟨Y.xb,0,none⟩),.agg #[.string wd,v]] w (jz w0 w C Y aw cap zs V m i [a,b]):=by
 obtain⟨e,g,n,rfl,z,A,o⟩:=tT x;obtain⟨f,ar,j⟩:=s Y.xb;have h:bW w (bxW w wd (.slice (some ⟨e,g,none⟩) 2 n)).drew:=(aD).drew;have p:=ag c.bel z;have q:=ag c.bel A;have r:=xB w wd (.slice (some ⟨e,g,none⟩) 2 n);refine(ai4 j t p q (vC zs V i a b).1 (ahC j (c.later h) (by omega) k l y) (fun F d=>⟨⟨d.cell (p:=⟨w.heap.size,0,none⟩) r.1 c.newC,d.cell (p:=⟨w.heap.size,1,none⟩) r.2 c.newC⟩,d.cell (p:=⟨e,g,none⟩) (ag h p) (c.lowC o),d.cell (p:=⟨e,g+1,none⟩) (ag h q) (c.lowC o)⟩)).mono ?_;rintro G H ⟨B,I,d,D⟩;unfold jz;rw[show cz (some (zs,V)) i [a,b]=(((opP zs V i a b).1,[111,107]),some (zs,(opP zs V i a b).2)) by rcases j with⟨rfl,-⟩|⟨rfl,-⟩|⟨rfl,-⟩|⟨rfl,-⟩|⟨rfl,-⟩<;>rfl]
 exact⟨B,_,rfl,((rW k l).ax u c.inv (by omega)).1,(d.from h).later D⟩
theorem lW{a:Int}(g:∀xb,∃f ar,ae8 xb a i f ar)(h:fD wd i)(b:RW w0 w C Y aw cap zs V m)(j:AX zs V)(t:m<800000)(k:IsSl w0 v [a])(d:0<=a):Calls prog 16 #[.pointer (some ⟨Y.xb,0,none⟩),.agg #[.string wd,v]] w (jz w0 w C Y aw cap zs V m i [a]):=by
 obtain⟨l,n,o,rfl,p,u⟩:=abq k;obtain⟨f,ar,c⟩:=g Y.xb;have e:bW w (bxW w wd (.slice (some ⟨l,n,none⟩) 1 o)):=aD;refine(aiR c h (ag b.bel p) (vC zs V i a 0).1 (aii (b:=0) c (b.later e) (by omega) d)).mono ?_;rintro x y ⟨q,z,r,s⟩;unfold jz;rw[show cz (some (zs,V)) i [a]=(((opP zs V i a 0).1,[111,107]),some (zs,(opP zs V i a 0).2)) by rcases c with⟨rfl,-⟩|⟨rfl,-⟩|⟨rfl,-⟩|⟨rfl,-⟩|⟨rfl,-⟩|⟨rfl,-⟩<;>rfl]
 exact⟨q,_,rfl,((rW d (Int.le_refl 0)).ax j b.inv (by omega)).1,(r.from e).later s⟩
theorem ai3(c:fD wd 12)(a:RW w0 w C Y aw cap zs V m)(b:AX zs V)(_hm:m<800000):Calls prog 16 #[.pointer (some ⟨Y.xb,0,none⟩),.agg #[.string wd,v]] w (jz w0 w C Y aw cap zs V m 12 []):=by
 refine(ae0 c a b).mono ?_;rintro g h ⟨d,e⟩;exact⟨d,V,rfl,b,a.out e (by omega)⟩
theorem ajg(b:fD wd 13)(a:RW w0 w C Y aw cap zs V m)(c:AX zs V)(g:m<800000):Calls prog 16 #[.pointer (some ⟨Y.xb,0,none⟩),.agg #[.string wd,v]] w (jz w0 w C Y aw cap zs V m 13 []):=by
 refine(ads b a (by omega)).mono ?_;rintro h j ⟨d,e⟩;exact⟨d,_,rfl,rt 3000 V m c a.inv (by omega),e⟩
theorem aiS(b:fD wd 14)(a:RW w0 w C Y aw cap zs V m)(c:AX zs V)(g:m<800000):Calls prog 16 #[.pointer (some ⟨Y.xb,0,none⟩),.agg #[.string wd,v]] w (jz w0 w C Y aw cap zs V m 14 []):=by
 refine(ad1 b a (by omega)).mono ?_;rintro h j ⟨d,e⟩;exact⟨d,V,rfl,c,a.out e (by omega)⟩
theorem ajd(c:fD wd 18)(a:RW w0 w C Y aw cap zs V m)(b:AX zs V)(_hm:m<800000):Calls prog 16 #[.pointer (some ⟨Y.xb,0,none⟩),.agg #[.string wd,v]] w (jz w0 w C Y aw cap zs V m 18 []):=by
 refine(adC c a b).mono ?_;rintro g h ⟨d,e⟩;exact⟨d,V,rfl,b,a.out e (by omega)⟩
theorem ajk{a:Int}(h:fD wd 17)(b:RW w0 w C Y aw cap zs V m)(j:AX zs V)(_hm:m<800000)(n:IsSl w0 v [a])(o:0<=a):Calls prog 16 #[.pointer (some ⟨Y.xb,0,none⟩),.agg #[.string wd,v]] w (jz w0 w C Y aw cap zs V m 17 [a]):=by
 obtain⟨s,t,u,rfl,p,x⟩:=abq n;obtain⟨c,rfl⟩:=bD o;have k:=ag b.bel p;have l:(cz (some (zs,V)) 17 [(c:Int)]).1=(if(c:Int)<zs.length then(0,if upN (V.nd c)=true then[117,112]else[100,111,119,110])else(2,[])):=rfl
 by_cases d:(c:Int)<zs.length
 ·exact(agL h b k (by omega)).mono fun q r ⟨e,g⟩=>⟨by rw[e,l,af d];rfl,V,rfl,j,b.out g (by omega)⟩
 ·exact(adj (.inl ⟨rfl,rfl⟩) h b k d).mono fun q r ⟨e,g⟩=>⟨by rw[e,l,aa d];rfl,V,rfl,j,b.out g (by omega)⟩
theorem ajj{a b:Int}(j:fD wd 16)(c:RW w0 w C Y aw cap zs V m)(k:AX zs V)(_hm:m<800000)(u:IsSl w0 v [a,b])(x:0<=a)(d:0<=b):Calls prog 16 #[.pointer (some ⟨Y.xb,0,none⟩),.agg #[.string wd,v]] w (jz w0 w C Y aw cap zs V m 16 [a,b]):=by
 obtain⟨A,B,D,rfl,y,z,E⟩:=tT u;obtain⟨g,rfl⟩:=bD x;obtain⟨h,rfl⟩:=bD d;have l:=ag c.bel y;have r:=ag c.bel z;have n:(cz (some (zs,V)) 16 [(g:Int),(h:Int)]).1=(if(g:Int)<zs.length∧(h:Int)<6 then(0,(il (V.nd g) h).data.toList)else(2,[])):=rfl
 by_cases o:(g:Int)<zs.length
 ·by_cases p:(h:Int)<6
  ·exact(af9 j c l r (by omega) (by omega)).mono fun s t ⟨e,d⟩=>⟨by rw[e,n,af ⟨o,p⟩];rfl,V,rfl,k,c.out d (by omega)⟩
  ·exact(afs (.inl rfl) j c l r (by omega) p).mono fun s t ⟨e,d⟩=>⟨by rw[e,n,aa (fun q=>p q.2)];rfl,V,rfl,k,c.out d (by omega)⟩
 ·exact(adj (.inr (.inl ⟨rfl,rfl⟩)) j c l o).mono fun s t ⟨e,d⟩=>⟨by rw[e,n,aa (fun q=>o q.1)];rfl,V,rfl,k,c.out d (by omega)⟩
theorem ajl{a b:Int}(j:fD wd 15)(e:RW w0 w C Y aw cap zs V m)(k:AX zs V)(_hm:m<800000)(u:IsSl w0 v [a,b])(x:0<=a)(g:0<=b):Calls prog 16 #[.pointer (some ⟨Y.xb,0,none⟩),.agg #[.string wd,v]] w (jz w0 w C Y aw cap zs V m 15 [a,b]):=by
 obtain⟨A,B,D,rfl,y,z,E⟩:=tT u;obtain⟨c,rfl⟩:=bD x;obtain⟨d,rfl⟩:=bD g;have l:=ag e.bel y;have r:=ag e.bel z;have n:(cz (some (zs,V)) 15 [(c:Int),(d:Int)]).1=(if(c:Int)<zs.length∧(d:Int)<6 then(0,iR (stN (V.nd c) d).ph (stN (V.nd c) d).pr (stN (V.nd c) d).at_)else(2,[])):=rfl
 by_cases o:(c:Int)<zs.length
 ·by_cases p:(d:Int)<6
  ·exact(ahv j e l r (by omega) (by omega) (show stN (V.nd c) d=⟨(stN (V.nd c) d).ph,(stN (V.nd c) d).pr,(stN (V.nd c) d).at_⟩from rfl)).mono fun s t ⟨h,g⟩=>⟨by rw[h,n,af ⟨o,p⟩];rfl,V,rfl,k,e.out g (by omega)⟩
  ·exact(afs (.inr rfl) j e l r (by omega) p).mono fun s t ⟨h,g⟩=>⟨by rw[h,n,aa (fun q=>p q.2)];rfl,V,rfl,k,e.out g (by omega)⟩
 ·exact(adj (.inr (.inr ⟨rfl,rfl⟩)) j e l o).mono fun s t ⟨h,g⟩=>⟨by rw[h,n,aa (fun q=>o q.1)];rfl,V,rfl,k,e.out g (by omega)⟩
theorem ahn{i:Nat}{o:List Int}(t:dB wd.data.toList=some i)(h0:i≠0)(c:gf i o)(j:eE (bP.getD i []) 0 o)(d:RW w0 w C Y aw cap zs V m)(e:AX zs V)(g:m<800000)(k:IsSl w0 v o):Calls prog 16 #[.pointer (some ⟨Y.xb,0,none⟩),.agg #[.string wd,v]] w (jz w0 w C Y aw cap zs V m i o):=by
 have y:=(fL t).1;have h:=rR t;unfold gf at c;rw[aa h0]at c;have r:∀(f:Bs) (u:Nat),ih f u<=99999:=fun f u=>by unfold ih;split<;>omega
 have x:i=1∨i=2∨i=3∨i=4∨i=5∨i=6∨i=7∨i=8∨i=9∨i=10∨i=11∨i=12∨i=13∨i=14∨i=15∨i=16∨i=17∨i=18:=by omega
 have two:o.length=2->∃b q,o=[b,q]:=fun s=>by
  match o,s with
  | [b,q],_=>exact⟨b,q,rfl⟩
 have one:o.length=1->∃b,o=[b]:=fun s=>by
  match o,s with
  | [b],_=>exact⟨b,rfl⟩
 have nil:o.length=0->o=[]:=fun s=>List.length_eq_zero_iff.1 s
 rcases x with rfl|rfl|rfl|rfl|rfl|rfl|rfl|rfl|rfl|rfl|rfl|rfl|rfl|rfl|rfl|rfl|rfl|rfl
 ·obtain⟨b,q,rfl⟩:=two c
  obtain⟨⟨a,-⟩,l⟩:=bL.1 j;obtain⟨⟨n,p⟩,-⟩:=bL.1 l;exact nP (fun _=>⟨_,_,.inl ⟨rfl,rfl,rfl⟩⟩) h d e g k a n (Int.le_trans p (r _ _))
 ·obtain⟨b,q,rfl⟩:=two c
  obtain⟨⟨a,-⟩,l⟩:=bL.1 j;obtain⟨⟨n,p⟩,-⟩:=bL.1 l;exact nP (fun _=>⟨_,_,.inr (.inl ⟨rfl,rfl,rfl⟩)⟩) h d e g k a n (Int.le_trans p (r _ _))
 ·obtain⟨b,rfl⟩:=one c
  obtain⟨⟨a,-⟩,-⟩:=bL.1 j;exact lW (fun _=>⟨_,_,.inl ⟨rfl,rfl,rfl⟩⟩) h d e g k a
 ·obtain⟨b,rfl⟩:=one c
  obtain⟨⟨a,-⟩,-⟩:=bL.1 j;exact lW (fun _=>⟨_,_,.inr (.inr (.inr (.inl ⟨rfl,rfl,rfl⟩)))⟩) h d e g k a
 ·obtain⟨b,rfl⟩:=one c
  obtain⟨⟨a,-⟩,-⟩:=bL.1 j;exact lW (fun _=>⟨_,_,.inr (.inr (.inr (.inr (.inl ⟨rfl,rfl,rfl⟩))))⟩) h d e g k a
 ·obtain⟨b,rfl⟩:=one c
  obtain⟨⟨a,-⟩,-⟩:=bL.1 j;exact lW (fun _=>⟨_,_,.inr (.inr (.inr (.inr (.inr (⟨rfl,rfl,rfl⟩)))))⟩) h d e g k a
 ·obtain⟨b,q,rfl⟩:=two c
  obtain⟨⟨a,-⟩,l⟩:=bL.1 j;obtain⟨⟨n,p⟩,-⟩:=bL.1 l;exact nP (fun _=>⟨_,_,.inr (.inr (.inl ⟨rfl,rfl,rfl⟩))⟩) h d e g k a n (Int.le_trans p (r _ _))
 ·obtain⟨b,q,rfl⟩:=two c
  obtain⟨⟨a,-⟩,l⟩:=bL.1 j;obtain⟨⟨n,p⟩,-⟩:=bL.1 l;exact nP (fun _=>⟨_,_,.inr (.inr (.inr (.inl ⟨rfl,rfl,rfl⟩)))⟩) h d e g k a n (Int.le_trans p (r _ _))
 ·obtain⟨b,q,rfl⟩:=two c
  obtain⟨⟨a,-⟩,l⟩:=bL.1 j;obtain⟨⟨n,p⟩,-⟩:=bL.1 l;exact nP (fun _=>⟨_,_,.inr (.inr (.inr (.inr (⟨rfl,rfl,rfl⟩))))⟩) h d e g k a n (Int.le_trans p (r _ _))
 ·obtain⟨b,rfl⟩:=one c
  obtain⟨⟨a,-⟩,-⟩:=bL.1 j;exact lW (fun _=>⟨_,_,.inr (.inl ⟨rfl,rfl,rfl⟩)⟩) h d e g k a
 ·obtain⟨b,rfl⟩:=one c
  obtain⟨⟨a,-⟩,-⟩:=bL.1 j;exact lW (fun _=>⟨_,_,.inr (.inr (.inl ⟨rfl,rfl,rfl⟩))⟩) h d e g k a
 ·obtain rfl:=nil c
  exact ai3 h d e g
 ·obtain rfl:=nil c
  exact ajg h d e g
 ·obtain rfl:=nil c
  exact aiS h d e g
 ·obtain⟨b,q,rfl⟩:=two c
  obtain⟨⟨a,-⟩,l⟩:=bL.1 j;obtain⟨⟨n,p⟩,-⟩:=bL.1 l;exact ajl h d e g k a n
 ·obtain⟨b,q,rfl⟩:=two c
  obtain⟨⟨a,-⟩,l⟩:=bL.1 j;obtain⟨⟨n,p⟩,-⟩:=bL.1 l;exact ajj h d e g k a n
 ·obtain⟨b,rfl⟩:=one c
  obtain⟨⟨a,-⟩,-⟩:=bL.1 j;exact ajk h d e g k a
 ·obtain rfl:=nil c
  exact ajd h d e g
end
theorem RW.rebase{w0 w1 w:World}{C:Nat->Nat}{b:YB}{aw:Option Addr}{cap m:Nat}{zs:List Int}{V:PX}(h:RW w1 w C b aw cap zs V m)(c:Below w0.heap.size w0 w)(a:w0.heap.size<=w1.heap.size)(d:IsSl w0 (.slice aw zs.length cap) zs):RW w0 w C b aw cap zs V m:=by
 obtain⟨e,f,g,i⟩:=h.brk;exact⟨c,h.row,d,h.ns,h.nds,⟨e,mq f a,g,i⟩,mq h.fly a,mq h.evs a,h.cx,h.cn,h.cb,h.cf,h.ce,h.lt,fun j k=>bc a (h.low j k),h.inv⟩
def gG(ls:List Ln):List Bs:=ls.filterMap fun l=>kf l.wd.data.toList l.ns
theorem wi(ls:List Ln)(l:Ln):gG (ls++[l])=gG ls++(kf l.wd.data.toList l.ns).toList:=by
 unfold gG;rw[List.filterMap_append]
 congr 1
theorem yO(ls:List Ln):(gG ls).length<=ls.length:=List.length_filterMap_le _ _
def DocO(w0 w:World)(C:Nat->Nat)(p:Value)(k:Nat):PSt->Prop
 | none=>p=.pointer none∧∀x,2000<=C x
 | some (zs,V)=>∃Y aw cap m,p=.pointer (some ⟨Y.xb,0,none⟩)∧RW w0 w C Y aw cap zs V m∧AX zs V∧m<=9000*k
theorem tR:∀(st:PSt) (L:List (List Bs)) (l:List Bs),eh st (L++[l])=((eh st L).1++[gu (cM (eh st L).2 l).1],(cM (eh st L).2 l).2)
 | st,[],l=>rfl
 | st,x::L,l=>by
  have:=tR (cM st x).2 L l;rw[List.cons_append];unfold eh;rw[this];rfl
section
variable {w wr w':World} {ls:List Ln} {k:Nat} {u v p:Value} {C C':Nat→Nat} {st:PSt}
theorem DocO.later{w0:World}(h:DocO w0 w C p k st)(a:Below w.heap.size w w'):DocO w0 w' C p k st:=by
 cases st with
 | none=>exact h
 | some b =>
  obtain⟨l,m⟩:=b;obtain⟨c,d,cap,e,f,g,i,j⟩:=h;exact⟨c,d,cap,e,f,g.later a,i,j⟩
theorem DocO.up{w0:World}{j:Nat}(h:DocO w0 w C p k st)(a:k<=j):DocO w0 w C p j st:=by
 cases st with
 | none=>exact h
 | some b =>
  obtain⟨m,n⟩:=b;obtain⟨c,d,cap,e,f,g,i,l⟩:=h;exact⟨c,d,cap,e,f,g,i,bc l (Nat.mul_le_mul_left _ a)⟩
theorem DocO.grown{w0:World}{row:Option Nat}(h:DocO w0 w C p k st)(a:w.grownBy w' row)(b:∀y,row=some y->2000<=C y)(c:∀y,row=some y->w0.heap.size<=y):DocO w0 w' C p k st:=by
 cases st with
 | none=>exact h
 | some d =>
  obtain⟨n,o⟩:=d;obtain⟨e,f,cap,g,i,j,l,m⟩:=h;exact⟨e,f,cap,g,i,j.far (bZ a) b c,l,m⟩
theorem DocO.fresh{w0:World}(h:DocO w0 w C p k st){x:Nat}(c:w.heap.size<=x):2000<=C x:=by
 cases st with
 | none=>exact h.2 x
 | some a =>
  obtain⟨d,e⟩:=a;obtain⟨f,g,cap,i,j,b,l,m⟩:=h;rcases bU (C x) 2000 with a|a
  ·have:=b.lt x a;omega
  ·exact a
theorem vL(h:∀l,l∈ls->l.ns.length<=12):∀x,x∈(gG ls).map bB->x.size<=1000:=fun x a=>by
 obtain⟨b,c,rfl⟩:=List.mem_map.1 a;show b.length<=1000;obtain⟨l,d,e⟩:=List.mem_filterMap.1 c;have f:=ado e;have g:=h l d;omega
end
structure PyM (w wr:World) (u v p:Value) (C:Nat->Nat) (nu nv:Nat) (xs ys:List Value) (k:Nat) (st:PSt):Prop where
 bel:Below w.heap.size w wr
 lns:wr.ownsRow w.heap.size 9 1 u nu xs
 wnt:wr.ownsRow w.heap.size 9 1 v nv ys
 doc:DocO w wr C p k st
 farL:∀g,u.ownBlock=some g->2000<=C g
 farW:∀g,v.ownBlock=some g->2000<=C g
 ap:∀g,u.ownBlock=some g->v.ownBlock=some g->False
section
variable {w W w' w3:World} {u v p u':Value} {C C':Nat→Nat} {nu nv k j:Nat} {xs ys:List Value} {st:PSt}
theorem PyM.later(h:PyM w W u v p C nu nv xs ys k st)(a:Below W.heap.size W w'):PyM w w' u v p C nu nv xs ys k st:=
 ⟨h.bel.trans (a.mono h.bel.size),dC h.lns a aj,dC h.wnt a aj,h.doc.later a,h.farL,h.farW,h.ap⟩
theorem PyM.up(h:PyM w W u v p C nu nv xs ys k st)(a:k<=j):PyM w W u v p C nu nv xs ys j st:=
 ⟨h.bel,h.lns,h.wnt,h.doc.up a,h.farL,h.farW,h.ap⟩
theorem PyM.addL{zs:List Value}(h:PyM w W u v p C nu nv xs ys k st)(l:w3.ownsRow w.heap.size 9 1 u' (nu+1) zs)(f:W.grownBy w3 u.ownBlock)(g:u'.ownBlock=u.ownBlock∨u'.ownBlock=some W.heap.size):PyM w w3 u' v p C (nu+1) nv zs ys k st:=by
 have i:∀d,u.ownBlock=some d->w.heap.size<=d:=fun d m=>(h.lns.lt d m).1
 refine⟨Below.grown h.bel f h.bel.size i,l,aV h.wnt (bZ f) (fun c e a=>h.ap c a e),h.doc.grown f h.farL i,fun c b=>?_,h.farW,fun c b e=>?_⟩
 ·rcases g with a|a
  ·exact h.farL c (by rw[<-a];exact b)
  ·rw[a]at b
   obtain rfl:=bF b;exact h.doc.fresh aj
 ·rcases g with a|a
  ·exact h.ap c (by rw[<-a];exact b) e
  ·rw[a]at b
   obtain rfl:=bF b;have:=(h.wnt.lt _ e).2;omega
theorem PyM.addW{zs:List Value}(h:PyM w W u v p C nu nv xs ys k st)(l:w3.ownsRow w.heap.size 9 1 u' (nv+1) zs)(e:W.grownBy w3 v.ownBlock)(g:u'.ownBlock=v.ownBlock∨u'.ownBlock=some W.heap.size):PyM w w3 u u' p C nu (nv+1) xs zs k st:=by
 have i:∀d,v.ownBlock=some d->w.heap.size<=d:=fun d m=>(h.wnt.lt d m).1
 refine⟨Below.grown h.bel e h.bel.size i,aV h.lns (bZ e) (fun c b a=>h.ap c b a),l,h.doc.grown e h.farW i,h.farL,fun c b=>?_,fun c b f=>?_⟩
 ·rcases g with a|a
  ·exact h.farW c (by rw[<-a];exact b)
  ·rw[a]at b
   obtain rfl:=bF b;exact h.doc.fresh aj
 ·rcases g with a|a
  ·exact h.ap c b (by rw[<-a];exact f)
  ·rw[a]at f
   obtain rfl:=bF f;have:=(h.lns.lt _ b).2;omega
theorem PyM.ans{e:YB}{aw:Option Addr}{cap M:Nat}{zs:List Int}{c:PX}(h:PyM w W u v p C nu nv xs ys k st)(l:p=.pointer (some ⟨e.xb,0,none⟩))(m:ROut w W w' C e aw cap zs c M)(n:AX zs c)(o:M<=9000*j):∃C',PyM w w' u v p C' nu nv xs ys j (some (zs,c)):=by
 obtain⟨C',q,f,r,g,i⟩:=m;refine⟨C',f.bel,aV h.lns g (fun a b d=>?_),aV h.wnt g (fun a b d=>?_),⟨q,aw,cap,M,by rw[l,fH r],f,n,o⟩,fun a b=>?_,fun a b=>?_,h.ap⟩
 ·have s:=h.farL a b
  have t:C a<2000:=d;omega
 ·have s:=h.farW a b
  have t:C a<2000:=d;omega
 ·rw[i a (h.lns.lt a b).2];exact h.farL a b
 ·rw[i a (h.wnt.lt a b).2];exact h.farW a b
theorem PyM.new{d:YB}{aw:Option Addr}{cap:Nat}{zs:List Int}(h:PyM w W u v p C nu nv xs ys k st)(b:RW W w' C' d aw cap zs dM 0)(i:IsSl w (.slice aw zs.length cap) zs)(l:AX zs dM):PyM w w' u v (.pointer (some ⟨d.xb,0,none⟩)) C' nu nv xs ys k (some (zs,dM)):=by
 have f:=h.bel.trans (b.bel.mono h.bel.size);have g:∀a,a<W.heap.size->2000<=C' a:=fun a c=>by
  rcases bU (C' a) 2000 with e|e
  ·have:=b.low a e;omega
  ·exact e
 exact⟨f,dC h.lns b.bel aj,dC h.wnt b.bel aj,⟨d,aw,cap,0,rfl,b.rebase f h.bel.size i,l,Nat.zero_le _⟩,fun a c=>g a (h.lns.lt a c).2,fun a c=>g a (h.wnt.lt a c).2,h.ap⟩
end
structure PyI (w wr:World) (ls:List Ln) (k:Nat) (u v p:Value) (C:Nat->Nat):Prop where
 pm:PyM w wr u v p C (gG (ls.take k)).length (gG (ls.take k)).length (eT (gG (ls.take k))) (eT (eh none ((gG (ls.take k)).map eL)).1) k (eh none ((gG (ls.take k)).map eL)).2
 sm:∀l,l∈ls.take k->l.ns.length<=12
end Go.Proofs.YtaehdgemkafinaaGreatDoor
