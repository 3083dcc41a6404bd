/-
  On the way to SPlaysProof: O40.
-/
import Derived.Test.YtaehdgemkafinaaGreatDoorBx51
set_option maxHeartbeats 8000000
set_option maxRecDepth 100000
namespace Go.Proofs.YtaehdgemkafinaaGreatDoor
open Go.RowKit
open Go.Proofs.Tryz
theorem vW(L:List Bs)(l:Bs){i:Nat}{a:List Int}(h:∀st,cM st (eL l)=cz st i a):eh none ((L++[l]).map eL)=((eh none (L.map eL)).1++[gu (cz (eh none (L.map eL)).2 i a).1],(cz (eh none (L.map eL)).2 i a).2):=by
 rw[List.map_append,List.map_cons,List.map_nil,tR,h]
section
variable {w:World} {A:Nat→Addr}
theorem zX(ad:Option Addr)(cap:Nat)(ls:List Ln)(hx:IsLn w ad ls)(hE:Held9 w A)(hT:TabO w)(hX:se w A):Calls prog 5 #[.slice ad ls.length cap] w fun e w'=>e=.returned (.bool true)∧Below w.heap.size w w':=by
 have HE:=hid hE;have HT:=hid hT;have HX:=hid hX;have g8:=hid hx;obtain⟨G,Hn⟩:=nmd (ls.length);rw[Hn.out];have HH:=hid (abk hE hT hX);clear hx hE hT hX
 by_cases l3:60<G
 ·have g9:(60:Int)<(G:Int):=by omega
  go_enter func5,ntmps5
  go_wp2_with fail
  refine HH.mono ?_;rintro e d ⟨rfl,a2⟩;have a8:=hid a2;clear a2
  go_wp2_with fail
  go_ret
  exact⟨rfl,a8⟩
 have g9:¬(60:Int)<(G:Int):=by omega
 go_enter func5,ntmps5
 go_wp2_with fail
 refine HH.mono ?_;rintro e d ⟨rfl,a2⟩;have a8:=hid a2;have h0:=hid (g8.later a2);clear a2;have h2:Hid (PyI d d ls 0 (.slice none 0 0) (.slice none 0 0) (.pointer none) (fun _=>2000)):=⟨⟨aF,World.ownsRow_nil _ _ _ _,World.ownsRow_nil _ _ _ _,⟨rfl,fun _=>aj⟩,(fun e1 g=>by cases g),(fun e1 g=>by cases g),fun e1 g=>by cases g⟩,fun B hl=>by simp at hl⟩
 go_wp2_with fail
 go_loopw [4,5,6,7] (fun h3 e2 h4 S wr=>∃(c:Nat) (O:Nat->Nat),c<=G∧S=iV (c:Int)∧Hid (PyI d wr ls c h3 e2 h4 O)) (fun _ _ _ S _=>G-(intOf S).toNat)
 case atStart=>exact⟨0,_,Nat.zero_le _,rfl,h2⟩
 case round =>
  obtain⟨c,O,hk,rfl,HI⟩:=hrel;obtain⟨j,HL⟩:=nmd (gG (ls.take c));have r:=hid HI.pm;have e4:=hid HI.sm;rw[HL.out]at r;have c3:=yO (ls.take c);rw[HL.out,bI]at c3;obtain⟨a,Hj⟩:=nmd (j.length);rw[Hj.out]at r c3;obtain⟨H,c4⟩:=nmd ((eh none (j.map eL)).2);obtain⟨C,HR⟩:=nmd ((eh none (j.map eL)).1);rw[c4.out,HR.out]at r;have hj:a<=60:=by omega
  clear c3;obtain⟨a3,a4,hu⟩:=iI r.lns;obtain⟨a5,a6,hv⟩:=iI r.wnt;subst hu;subst hv
  by_cases h5:c<G
  ·have h6:(c:Int)<(G:Int):=by omega
   have c5:c<ls.length:=by rw[Hn.out];exact h5
   obtain⟨a9,l4,l5,h7,C0,C1⟩:=h0.out c c5;have b0:=a9.later r.bel;subst h7;have c6:=hid (List.take_succ_eq_append_getElem c5);obtain⟨k,h8⟩:=nmd (ls[c]'c5);rw[h8.out]at C0 C1 b0 a9 c6;obtain⟨D,q,e2⟩:=k;simp only at C0 C1 b0 a9;have h9:=b0;obtain⟨P,Q,hv,-⟩:=h9;obtain⟨F,Hm⟩:=nmd (q.length);rw[Hm.out]at hv;subst hv;have b4:=hid a9;have b5:=hid C0;have b6:=hid C1;have l6:=ag r.bel C0;have l7:=ag r.bel C1;clear C0 C1
   by_cases l8:12<F
   ·have i0:(12:Int)<(F:Int):=by omega
    go_wp2_with fail
    go_ret
    exact⟨rfl,ao a8 r.bel⟩
   have i0:¬(12:Int)<(F:Int):=by omega
   by_cases l9:60<D.size
   ·have i1:(60:Int)<(D.size:Int):=by omega
    go_wp2_with fail
    go_ret
    exact⟨rfl,ao a8 r.bel⟩
   have i1:¬(60:Int)<(D.size:Int):=by omega
   have e5:Hid (∀B,B∈ls.take (c+1)->B.ns.length<=12):=fun B hl=>by
    rw[c6.out]at hl;rcases List.mem_append.1 hl with S|S
    ·exact e4 B S
    ·rw[List.mem_singleton.1 S]
     show q.length<=12;rw[Hm.out];omega
   have c7:=hid (afL (wd:=D) b0 (by rw[Hm.out];omega) (by omega));obtain⟨b7,Hr⟩:=nmd (kf D.data.toList q);have e6:Hid (gG (ls.take (c+1))=j++b7.toList):=by
    change _=_;rw[c6.out,wi,HL.out];show j++(kf D.data.toList q).toList=_;rw[Hr.out]
   rw[Hr.out]at c7;clear b0 a9
   cases b7 with
   | none =>
    have T:Hid (Calls prog 11 #[.agg #[.string D,.slice P F Q]] wr fun e w'=>e=.returned (.tuple #[.string ⟨#[]⟩,.bool false])∧bW wr w'):=c7.out;have a7:Hid (∀b,bW wr b->PyI d b ls (c+1) _ _ _ O):=fun b t=>by
     refine⟨?_,e5⟩;rw[e6.out,show j++(none:Option Bs).toList=j from List.append_nil j,Hj.out,c4.out,HR.out];exact(r.later t).up (aP c)
    go_wp2_with fail
    refine T.mono ?_;rintro e b ⟨rfl,t⟩;have i2:=hid (a7 b t);clear t
    go_wp2_with fail
    go_roundw
    case rel=>exact⟨c+1,O,by omega,by go_num,i2⟩
    case measure=>simp[intOf];omega
   | some B =>
    have T:Hid (Calls prog 11 #[.agg #[.string D,.slice P F Q]] wr fun e w'=>e=.returned (.tuple #[.string (bB B),.bool true])∧bW wr w'):=c7.out;obtain⟨I,i3,e7,e8,e9,-,f0⟩:=sw Hr;have f1:=hid e7;have i4:=hid e8;have i5:=hid e9;have c8:=vW j B f0;rw[c4.out,HR.out]at c8;have i6:=hid c8;obtain⟨k,Hx⟩:=nmd (bB B);rw[Hx.out]at T;have i7:Hid (eT (j++[B])=eT j++[.string k]):=by
     change _=_;rw[<-Hx.out];unfold eT;rw[List.map_append];rfl
    have a7:Hid (∀R u6 v6 p6 C6,PyM d R u6 v6 p6 C6 (a+1) (a+1) (eT j++[.string k]) (eT C++[.string (bB (gu (cz H I q).1))]) (c+1) (cz H I q).2->PyI d R ls (c+1) u6 v6 p6 C6):=fun R u6 v6 p6 C6 hp=>by
     refine⟨?_,e5⟩;have i8:j++(some B).toList=j++[B]:=rfl;have i9:(j++[B]).length=a+1:=by rw[aR,Hj.out];rfl
     have e3:eT (C++[gu (cz H I q).1])=eT C++[.string (bB (gu (cz H I q).1))]:=by
      unfold eT;rw[List.map_append];rfl
     rw[e6.out,i8,i9,i6.out,i7.out,e3];exact hp
    clear e7 e8 e9 f0 c8 i3;have b8:(D.toList==[115,105,116,101,115])=(0==I):=rR f1 0 (by decide)
    by_cases b9:I=0
    ·subst b9
     have j0:(D.toList==[115,105,116,101,115])=true:=b8;obtain⟨z,Hc⟩:=nmd (bT q);have j1:z<=9:=by rw[<-Hc.out];exact(uP q).1
     obtain⟨h,J⟩:=nmd (bB (gu (z,[111,107])));have f2:Hid (∀i:World,Calls prog 15 #[iV (z:Int)] i fun e w'=>e=.returned (.string h)∧bW i w'):=fun i=>by rw[<-J.out];exact kC z j1 i
     have f3:Hid (∀i,bW d i->Calls prog 13 #[.slice P F Q] i fun e w'=>e=.returned (iV (z:Int))∧w'=i):=fun i hb=>by
      have:=ad2 (.slice P F Q) q i (b4.later hb);rw[Hc.out]at this;exact this
     clear b8
     by_cases K:z=0
     ·have b1:Hid (cz H 0 q=((0,[111,107]),some (q,dM))):=by
       change _=_;unfold cz;rw[af rfl,af (by rw[Hc.out];exact K)]
      have b2:Hid (bB (gu ((0,[111,107]):Nat×Bs))=h):=by rw[<-J.out,K];exact hid rfl
      have j2:Hid (∀i,bW d i->Calls prog 14 #[.slice P F Q] i fun e w'=>∃O L,e=.returned (pV L.xb)∧RW i w' O L P Q q dM 0):=fun i hb=>by
       have h1:=b4.later hb;rw[<-Hm.out]at h1 ⊢;exact aei h1 (by rw[Hc.out];exact K)
      have j3:Hid (IsSl d (.slice P q.length Q) q):=by rw[Hm.out];exact b4
      have j4:((z:Int)==0)=true:=by rw[K];rfl
      clear K
      go_wp2_with fail
      refine T.mono ?_;rintro e b ⟨rfl,t⟩;have U:=hid (r.later t);obtain⟨l,u⟩:=nmd (b.alloc (.cells #[.string k] 9));have V:Hid (bW b l):=by rw[<-u.out];exact aD
      have v:=hid (U.later V);have W:Hid (∀a m,[Value.string k][a]?=some m->l.cell? ((⟨b.heap.size,0,none⟩:Addr).add a)=some m):=by rw[<-u.out];exact fI b 9 (.string k)
      have X:d.heap.size<=l.heap.size:=v.bel.size;have c9:=u.out;clear t
      go_wp2_with (at_builtin;refine fi rfl _ _ rfl d.heap.size a (.slice a3 a a4) (eT j) ⟨b.heap.size,0,none⟩ 1 k rfl rfl v.lns W (by omega) X ?_;intro d0 d1 M n g o;have s:=hid (v.addL n g o);have d2:=ag s.bel b5;have d3:=ag s.bel b6;clear n g o)
      refine(f3 M s.bel).mono ?_;rintro e w4 ⟨rfl,j5⟩;subst w4
      go_wp2_with fail
      refine(j2 M s.bel).mono ?_;rintro e w4 ⟨C4,Y4,rfl,f4⟩;have j6:=hid ((s.new f4 j3 AX.new).up (aP c));clear f4
      go_wp2_with fail
      refine(f2 w4).mono ?_;rintro e f ⟨rfl,E⟩;have Y:=hid (j6.later E);clear E;obtain⟨p,x⟩:=nmd (f.alloc (.cells #[.string h] 9));have N:Hid (bW f p):=by rw[<-x.out];exact aD
      have y:=hid (Y.later N);have Z:Hid (∀a m,[Value.string h][a]?=some m->p.cell? ((⟨f.heap.size,0,none⟩:Addr).add a)=some m):=by rw[<-x.out];exact fI f 9 (.string h)
      have a0:d.heap.size<=p.heap.size:=y.bel.size;have d4:=x.out
      go_wp2_with (at_builtin;refine fi rfl _ _ rfl d.heap.size a (.slice a5 a a6) (eT C) ⟨f.heap.size,0,none⟩ 1 h rfl rfl y.wnt Z (by omega) a0 ?_;intro d5 d6 R n g o;have a1:=hid (y.addW n g o);clear n g o)
      go_roundw
      case rel=>exact⟨c+1,_,by omega,by go_num,a7 _ _ _ _ _ (by rw[b1.out,b2.out];exact a1)⟩
      case measure=>simp[intOf];omega
     ·have b1:Hid (cz H 0 q=((z,[]),H)):=by
       change _=_;unfold cz;rw[af rfl,aa (by rw[Hc.out];exact K),Hc.out]
      have b2:Hid (bB (gu ((z,[]):Nat×Bs))=h):=by
       rw[<-J.out];unfold gu;rw[aa K,aa K];exact hid rfl
      have j4:((z:Int)==0)=false:=beq_eq_false_iff_ne.2 (by omega);clear K
      go_wp2_with fail
      refine T.mono ?_;rintro e b ⟨rfl,t⟩;have U:=hid (r.later t);obtain⟨l,u⟩:=nmd (b.alloc (.cells #[.string k] 9));have V:Hid (bW b l):=by rw[<-u.out];exact aD
      have v:=hid (U.later V);have W:Hid (∀a m,[Value.string k][a]?=some m->l.cell? ((⟨b.heap.size,0,none⟩:Addr).add a)=some m):=by rw[<-u.out];exact fI b 9 (.string k)
      have X:d.heap.size<=l.heap.size:=v.bel.size;have c9:=u.out;clear t
      go_wp2_with (at_builtin;refine fi rfl _ _ rfl d.heap.size a (.slice a3 a a4) (eT j) ⟨b.heap.size,0,none⟩ 1 k rfl rfl v.lns W (by omega) X ?_;intro d0 d1 M n g o;have s:=hid (v.addL n g o);have d2:=ag s.bel b5;have d3:=ag s.bel b6;clear n g o)
      refine(f3 M s.bel).mono ?_;rintro e w4 ⟨rfl,j5⟩;subst w4
      go_wp2_with fail
      refine(f2 M).mono ?_;rintro e f ⟨rfl,E⟩;have Y:=hid ((s.later E).up (aP c));clear E;obtain⟨p,x⟩:=nmd (f.alloc (.cells #[.string h] 9));have N:Hid (bW f p):=by rw[<-x.out];exact aD
      have y:=hid (Y.later N);have Z:Hid (∀a m,[Value.string h][a]?=some m->p.cell? ((⟨f.heap.size,0,none⟩:Addr).add a)=some m):=by rw[<-x.out];exact fI f 9 (.string h)
      have a0:d.heap.size<=p.heap.size:=y.bel.size;have d4:=x.out
      go_wp2_with (at_builtin;refine fi rfl _ _ rfl d.heap.size a (.slice a5 a a6) (eT C) ⟨f.heap.size,0,none⟩ 1 h rfl rfl y.wnt Z (by omega) a0 ?_;intro d5 d6 R n g o;have a1:=hid (y.addW n g o);clear n g o)
      go_roundw
      case rel=>exact⟨c+1,_,by omega,by go_num,a7 _ _ _ _ _ (by rw[b1.out,b2.out];exact a1)⟩
      case measure=>simp[intOf];omega
    ·have j0:(D.toList==[115,105,116,101,115])=false:=by rw[b8];exact beq_eq_false_iff_ne.2 (fun e=>b9 e.symm)
     clear b8
     cases H with
     | none =>
      obtain⟨hp,-⟩:=r.doc;subst hp;obtain⟨h,J⟩:=nmd (bB (fC 4));have b1:Hid (cz none I q=((4,[]),none)):=by
       change _=_;unfold cz;rw[aa b9]
      have b2:Hid (bB (gu ((4,[]):Nat×Bs))=h):=by rw[<-J.out];exact hid rfl
      have j7:Hid (∀i:World,Calls prog 10 #[iV 4] i fun e w'=>e=.returned (.string h)∧bW i w'):=fun i=>by rw[<-J.out];exact lh 3 (by decide) i
      go_wp2_with fail
      refine T.mono ?_;rintro e b ⟨rfl,t⟩;have U:=hid (r.later t);obtain⟨l,u⟩:=nmd (b.alloc (.cells #[.string k] 9));have V:Hid (bW b l):=by rw[<-u.out];exact aD
      have v:=hid (U.later V);have W:Hid (∀a m,[Value.string k][a]?=some m->l.cell? ((⟨b.heap.size,0,none⟩:Addr).add a)=some m):=by rw[<-u.out];exact fI b 9 (.string k)
      have X:d.heap.size<=l.heap.size:=v.bel.size;have c9:=u.out;clear t
      go_wp2_with (at_builtin;refine fi rfl _ _ rfl d.heap.size a (.slice a3 a a4) (eT j) ⟨b.heap.size,0,none⟩ 1 k rfl rfl v.lns W (by omega) X ?_;intro d0 d1 M n g o;have s:=hid (v.addL n g o);have d2:=ag s.bel b5;have d3:=ag s.bel b6;clear n g o)
      refine(j7 M).mono ?_;rintro e f ⟨rfl,E⟩;have Y:=hid ((s.later E).up (aP c));clear E;obtain⟨p,x⟩:=nmd (f.alloc (.cells #[.string h] 9));have N:Hid (bW f p):=by rw[<-x.out];exact aD
      have y:=hid (Y.later N);have Z:Hid (∀a m,[Value.string h][a]?=some m->p.cell? ((⟨f.heap.size,0,none⟩:Addr).add a)=some m):=by rw[<-x.out];exact fI f 9 (.string h)
      have a0:d.heap.size<=p.heap.size:=y.bel.size;have d4:=x.out
      go_wp2_with (at_builtin;refine fi rfl _ _ rfl d.heap.size a (.slice a5 a a6) (eT C) ⟨f.heap.size,0,none⟩ 1 h rfl rfl y.wnt Z (by omega) a0 ?_;intro d5 d6 R n g o;have a1:=hid (y.addW n g o);clear n g o)
      go_roundw
      case rel=>exact⟨c+1,_,by omega,by go_num,a7 _ _ _ _ _ (by rw[b1.out,b2.out];exact a1)⟩
      case measure=>simp[intOf];omega
     | some zv =>
      obtain⟨zs,c0⟩:=zv;have j8:=r.doc;obtain⟨L,aw,cp,b3,hp,j9,f5,f6⟩:=j8;subst hp;clear j9;have k0:=hid f5;have m0:=hid f6;clear f5 f6;have k1:Hid (∀i L aw cp b3,RW d i O L aw cp zs c0 b3->b3<=9000*c->Calls prog 16 #[pV L.xb,.agg #[.string D,.slice P F Q]] i (jz d i O L aw cp zs c0 b3 I q)):=fun i L aw cp b3 hR hm=>ahn f1 b9 i4 i5 hR k0 (by omega) b4
      go_wp2_with fail
      refine T.mono ?_;rintro e b ⟨rfl,t⟩;have U:=hid (r.later t);obtain⟨l,u⟩:=nmd (b.alloc (.cells #[.string k] 9));have V:Hid (bW b l):=by rw[<-u.out];exact aD
      have v:=hid (U.later V);have W:Hid (∀a m,[Value.string k][a]?=some m->l.cell? ((⟨b.heap.size,0,none⟩:Addr).add a)=some m):=by rw[<-u.out];exact fI b 9 (.string k)
      have X:d.heap.size<=l.heap.size:=v.bel.size;have c9:=u.out;clear t
      go_wp2_with (at_builtin;refine fi rfl _ _ rfl d.heap.size a (.slice a3 a a4) (eT j) ⟨b.heap.size,0,none⟩ 1 k rfl rfl v.lns W (by omega) X ?_;intro d0 d1 M n g o;have s:=hid (v.addL n g o);have d2:=ag s.bel b5;have d3:=ag s.bel b6;clear n g o)
      obtain⟨Y3,k2,k3,m3,f7,f8,-,f9⟩:=s.doc;have g0:L.xb=Y3.xb:=by
       injection f7 with h1
       have k4:=bF h1;injection k4
      rw[g0];refine(k1 M Y3 k2 k3 m3 f8 f9).mono ?_;rintro e f ⟨rfl,V5,g1,g2,g3⟩;obtain⟨h,J⟩:=nmd (bB (gu (cz (some (zs,c0)) I q).1));have hM:m3+9000<=9000*(c+1):=by omega
      obtain⟨C5,d7⟩:=s.ans f7 g3 g2 hM;rw[g0]at d7;have Y:=hid d7;have k5:Hid ((cz (some (zs,c0)) I q).2=some (zs,V5)):=g1;rw[J.out];clear d7 f8 f9 g3 g2 g1 hM;obtain⟨p,x⟩:=nmd (f.alloc (.cells #[.string h] 9));have N:Hid (bW f p):=by rw[<-x.out];exact aD
      have y:=hid (Y.later N);have Z:Hid (∀a m,[Value.string h][a]?=some m->p.cell? ((⟨f.heap.size,0,none⟩:Addr).add a)=some m):=by rw[<-x.out];exact fI f 9 (.string h)
      have a0:d.heap.size<=p.heap.size:=y.bel.size;have d4:=x.out
      go_wp2_with (at_builtin;refine fi rfl _ _ rfl d.heap.size a (.slice a5 a a6) (eT C) ⟨f.heap.size,0,none⟩ 1 h rfl rfl y.wnt Z (by omega) a0 ?_;intro d5 d6 R n g o;have a1:=hid (y.addW n g o);clear n g o)
      go_roundw
      case rel=>exact⟨c+1,_,by omega,by go_num,a7 _ _ _ _ _ (by rw[k5.out,J.out];exact a1)⟩
      case measure=>simp[intOf];omega
  ·obtain rfl:c=G:=by omega
   have h6:¬(c:Int)<(c:Int):=by omega
   have d8:ls.take c=ls:=List.take_of_length_le (Nat.le_of_eq Hn);have d9:=e4.out;rw[d8]at d9;rw[d8]at HL;have g4:=hid (vL d9);rw[HL.out]at g4;have c1:=hid (ao a8 r.bel);have c2:Hid ((j.map bB).length=a):=by
    change _=_;rw[List.length_map,Hj.out]
   have e0:Hid ((C.map bB).length=a):=by
    change _=_;rw[List.length_map,<-HR.out,pt,List.length_map,Hj.out]
   obtain⟨m1,m2,e3,g5⟩:SlS wr (.slice a3 a a4) (j.map bB):=SlS.owned c2 (by have:=r.lns;rw[pS]at this;exact this);rw[c2.out]at e3;injection e3 with k6 k7 k8
   subst k6 k8;have k9:Hid (SlS wr (.slice a5 a a6) (C.map bB)):=SlS.owned e0 (by have:=r.wnt;rw[pS]at this;exact this);have g6:=hid (sA (w:=wr) (A:=A) a3 a4 (j.map bB) (by rw[c2.out];omega) g4 g5 (HE.later c1) (HT.later c1) (fun z hc=>ag c1 (HX z hc)));rw[c2.out,abm,HR.out]at g6;clear g5 k7 d9 d8
   go_wp2_with fail
   refine g6.mono ?_;rintro e f ⟨u5,rfl,ho,E⟩;have N:=hid (ao c1 E);have l0:Hid (SlS f u5 (C.map bB)):=SlS.owned e0 (by rw[pS]at ho;exact ho);have l1:=hid (sG u5 (.slice a5 a a6) (C.map bB) f l0 (k9.later E) (by rw[e0.out];omega));clear ho E
   go_wp2_with fail
   refine l1.mono ?_;rintro e R ⟨rfl,g7⟩;have l2:=hid (ao N g7);clear g7
   go_wp2_with fail
   go_ret
   exact⟨rfl,l2⟩
end
end Go.Proofs.YtaehdgemkafinaaGreatDoor
