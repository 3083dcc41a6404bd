/-
  On the way to SPlaysProof: O21 O23 O24 O25 O26 O27 O30 O32.
-/
import Derived.Test.YtaehdgemkafinaaGreatDoorBx40
set_option maxHeartbeats 8000000
set_option maxRecDepth 100000
namespace Go.Proofs.YtaehdgemkafinaaGreatDoor
open Go.RowKit
open Go.Proofs.Tryz
def IsSs(w:World)(ad:Option Addr)(xs:List ByteArray):Prop:=∀i (h:i<xs.length),∃b o,ad=some ⟨b,o,none⟩∧w.cell? ⟨b,o+i,none⟩=some (.string (xs[i]'h))
theorem IsSs.later{w w':World}{a:Option Addr}{xs:List ByteArray}(h:IsSs w a xs)(b:Below w.heap.size w w'):IsSs w' a xs:=fun c d=>by
 obtain⟨e,f,g,i⟩:=h c d;exact⟨e,f,g,ag b i⟩
def eZ(s:ByteArray):List Bs:=(cB s).map (·.data.toList)
def eT(l:List Bs):List Value:=l.map fun x=>Value.string (bB x)
theorem sP:∀(st:PSt) (ls:List (List Bs)) (k:Nat) (h:k<ls.length),eh st (ls.take (k+1))=((eh st (ls.take k)).1++[gu (cM (eh st (ls.take k)).2 (ls[k]'h)).1],(cM (eh st (ls.take k)).2 (ls[k]'h)).2)
 | st,l::r,0,h=>rfl
 | st,l::r,k+1,h=>by
  have:=sP (cM st l).2 r k (by simpa using h);simp only[List.take_succ_cons,List.getElem_cons_succ];unfold eh;rw[this];rfl
theorem acV{w0 wc w w':World}{pb:Nat}{C:Nat->Nat}{st:PSt}{m:Nat}{row:Option Nat}(h:PlO w0 wc w pb C st m)(d:w.grownBy w' row)(e:∀y,row=some y->wc.heap.size<=y)(j:∀y,row=some y->2000<=C y):PlO w0 wc w' pb C st m:=by
 have f:=bZ d;have x:=h.lo;have k:=h.lp;have l:row≠some pb:=fun c=>by have:=e pb c;omega
 refine⟨Below.grown h.bel d h.bel.size (fun y n=>by have:=e y n;omega),h.lo,h.lp,fun a b o=>?_,h.far,bc h.sz f.size,fun a b=>bm (h.top a b) f.size,?_⟩
 ·exact(d.block a (bm b h.sz) (fun c=>by have:=e a c.symm;omega)).trans (h.fz a b o)
 ·have g:=h.st
  have p:pb<w.heap.size:=bm k h.sz;have i:w'.heap[pb]?=w.heap[pb]?:=d.block pb p (fun c=>l c.symm);unfold StO at *
  split
  ·exact i.trans g
  ·obtain⟨q,r,s,t,u,v⟩:=g
   exact⟨q,r,i.trans s,t.far f j (fun a b=>by have:=e a b;omega),u,v⟩
structure RlO (w0 wc wr:World) (pb:Nat) (ls:List (List Bs)) (k:Nat) (u:Value) (C:Nat->Nat):Prop where
 pl:PlO w0 wc wr pb C (eh none (ls.take k)).2 (672*k)
 own:wr.ownsRow wc.heap.size 9 1 u k (eT (eh none (ls.take k)).1)
 far:∀g,u.ownBlock=some g->2000<=C g
section
variable {w0 w:World} {A:Nat→Addr}
theorem sA(M:Option Addr)(cap:Nat)(xs:List ByteArray)(hl:xs.length<=100)(N:∀x,x∈xs->x.size<=1000)(O:IsSs w M xs)(P:Held9 w A)(Q:TabO w)(R:se w A):Calls prog 7 #[.slice M xs.length cap] w fun e w'=>∃k,e=.returned (.tuple #[k,.nilIface])∧w'.ownsRow w.heap.size 9 1 k xs.length (eT (eh none (xs.map eZ)).1)∧Below w.heap.size w w':=by
 have HE:=hid P;have HT:=hid Q;have HX:=hid R;have b0:=hid O;have HS:=hid N;obtain⟨f,u⟩:=nmd (xs.length);rw[u.out]at hl ⊢;have c2:¬(100:Int)<(f:Int):=by omega
 obtain⟨v,S⟩:=nmd (w.alloc (.cells #[.pointer none,iV 0] 47));have l:=aB w (.cells #[.pointer none,iV 0] 47);have y:bW w (w.alloc (.cells #[.pointer none,iV 0] 47)):=aD;rw[S.out]at l y;have m:=hid l;have n:=hid y;have HC:=hid (uF w.heap.size v (ah l));have c3:=S.out;clear P Q R O N l y
 go_enter func7,ntmps7
 go_wp2_with fail
 refine HC.mono ?_;rintro e wc ⟨mb,bb,vs,rfl,T,j,U⟩;have b1:Hid (EnvO w wc mb w.heap.size bb vs A):=⟨T,HE,HT,bm (ah m) U⟩;have b2:Hid (RlO w wc wc w.heap.size (xs.map eZ) 0 (.slice none 0 0) (fun _=>2000)):=by
  refine⟨⟨n.trans (j.mono n.size),aj,bm (ah m) j.size,fun _ _ _=>rfl,fun x z=>absurd z (by decide),aj,fun x z=>absurd z (by decide),?_⟩,World.ownsRow_nil _ _ _ _,(fun b d=>by cases d)⟩;exact(j.block _ (ah m)).trans m
 have b3:=hid (n.trans (j.mono n.size));clear T j U
 go_wp2_with fail
 go_loopw [6,19] (fun k B wr=>∃(a:Nat) (V:Nat->Nat),a<=f∧B=iV (a:Int)∧Hid (RlO w wc wr w.heap.size (xs.map eZ) a k V)) (fun _ B _=>f-(intOf B).toNat)
 case atStart=>exact⟨0,_,Nat.zero_le _,rfl,b2⟩
 case round =>
  obtain⟨a,V,hk,rfl,c⟩:=hrel;obtain⟨o,p,hu⟩:=iI c.own;subst hu
  by_cases b4:a<f
  ·have b5:(a:Int)<(f:Int):=by omega
   have q:a<xs.length:=by rw[u.out];exact b4
   obtain⟨c4,c5,b6,W⟩:=b0.later c.pl.bel a q;subst b6;obtain⟨x,C⟩:=nmd (xs[a]'q);rw[C.out]at W;have b7:x.size<=1000:=HS.out x (by rw[<-C.out];exact List.getElem_mem q);have X:=hid (aba x b1 HX c.pl b7 (by omega) (Nat.le_of_eq (show 672*a+672=672*(a+1) by omega)));have Y:a<(xs.map eZ).length:=by rw[List.length_map];exact q
   have r:=hid (sP none (xs.map eZ) a Y);have Z:(xs.map eZ)[a]'Y=(cB x).map (·.data.toList):=by rw[List.getElem_map,C.out];rfl
   rw[Z]at r;obtain⟨D,Hr⟩:=nmd (cM (eh none ((xs.map eZ).take a)).2 ((cB x).map (·.data.toList)));rw[Hr.out]at X r;clear Z
   go_wp2_with fail
   refine X.mono ?_;rintro e g ⟨rfl,E,F,a0,a1⟩;have a2:g.ownsRow wc.heap.size 9 1 (.slice o a p) a (eT (eh none ((xs.map eZ).take a)).1):=aV c.own a0 (fun b d e=>by
    have h1:=(c.own.lt b d).1;have h2:=c.far b d;have h3:=c.pl.lp;rcases e with e|e
    ·omega
    ·omega)
   have a3:∀b,(Value.slice o a p).ownBlock=some b->2000<=E b:=fun b d=>a1 b (c.own.lt b d).2 (c.far b d)
   obtain⟨h,Ht⟩:=nmd (gu D.1);rw[Ht.out];obtain⟨i,G⟩:=nmd (g.alloc (.cells #[.string (bB h)] 9));have H:Hid (bW g i):=by rw[<-G.out];exact aD
   have a4:=hid (dC a2 H aj);have b8:Hid (∀a5 a6,[Value.string (bB h)][a5]?=some a6->i.cell? ((⟨g.heap.size,0,none⟩:Addr).add a5)=some a6):=by rw[<-G.out];exact fI g 9 (.string (bB h))
   have b9:wc.heap.size<=i.heap.size:=bc F.sz H.size;have I:=hid (And.intro F a3);have c6:=G.out;clear F a0 a1 a2 a3 W
   go_wp2_with (at_builtin;refine fi rfl _ _ rfl wc.heap.size a (.slice o a p) (eT (eh none ((xs.map eZ).take a)).1) ⟨g.heap.size,0,none⟩ 1 (bB h) rfl rfl a4 b8 (by omega) b9 ?_;intro c7 c8 w3 a7 d a8;have J:=hid (And.intro a7 (And.intro d a8));clear a7 d a8)
   go_roundw
   case rel =>
    refine⟨a+1,E,by omega,by go_num,?_⟩;have a9:=I.1.later H;have c0:∀s,(Value.slice o a p).ownBlock=some s->wc.heap.size<=s:=fun s hy=>(a4.lt s hy).1
    refine⟨?_,?_,fun b t=>?_⟩
    ·rw[r.out]
     exact acV a9 J.2.1 c0 I.2
    ·rw[r.out,Ht.out]
     show w3.ownsRow _ _ _ _ _ (eT (_++[h]));unfold eT;rw[List.map_append];exact J.1
    ·rcases J.2.2 with e|e
     ·rw[e]at t;exact I.2 b t
     ·rw[e]at t
      obtain rfl:=bF t;rcases bU (E i.heap.size) 2000 with K|K
      ·have:=a9.top _ K;omega
      ·exact K
   case measure=>simp[intOf];omega
  ·obtain rfl:a=f:=by omega
   have b5:¬(a:Int)<(a:Int):=by omega
   have L:=c.own;rw[List.take_of_length_le (by rw[List.length_map];exact Nat.le_of_eq u)]at L;have c1:=hid L;clear L
   go_wp2_with fail
   go_ret2
   exact⟨_,rfl,nL c1 b3.size,c.pl.bel⟩
end
def SlS(w:World)(v:Value)(xs:List ByteArray):Prop:=∃ad cap,v=.slice ad xs.length cap∧IsSs w ad xs
theorem SlS.later{w w':World}{v:Value}{xs:List ByteArray}(h:SlS w v xs)(a:Below w.heap.size w w'):SlS w' v xs:=by
 obtain⟨b,cap,c,d⟩:=h;exact⟨b,cap,c,d.later a⟩
theorem SlS.owned{w:World}{B n:Nat}{v:Value}{xs:List ByteArray}(d:xs.length=n)(h:w.ownsRow B 9 1 v n (xs.map Value.string)):SlS w v xs:=by
 have e:=h;rcases h.2 with⟨a,f⟩|⟨g,cap,i,a,-⟩
 ·refine⟨none,0,by rw[a,d,f],fun b c=>by omega⟩
 ·refine⟨_,cap,by rw[a,d],fun b c=>⟨g,0,rfl,?_⟩⟩
  subst a;have:=e.cells rfl b (.string (xs[b]'c)) (by rw[List.getElem?_map,cG c];rfl);rw[cZ]at this;exact this
theorem SlS.lit(w:World)(t:TypeId)(xs:List ByteArray)(n:Nat)(a:xs.length=n):SlS (w.alloc (.cells (xs.map Value.string).toArray t)) (.slice (some ⟨w.heap.size,0,none⟩) n n) xs:=
 ⟨_,n,by rw[a],fun b c=>⟨w.heap.size,0,rfl,by rw[Nat.zero_add];exact oy w t xs b _ (cG c)⟩⟩
theorem sG(v1 g:Value)(xs:List ByteArray)(w:World)(h1:SlS w v1 xs)(k:SlS w g xs)(l:xs.length<=1000):Calls prog 12 #[v1,g] w fun e w'=>e=.returned (.bool true)∧Below w.heap.size w w':=by
 obtain⟨u,v,rfl,h⟩:=h1;obtain⟨x,y,rfl,i⟩:=k;have m:=hid h;have n:=hid i;obtain⟨b,j⟩:=nmd (xs.length);rw[j.out]at l ⊢;clear h i
 go_enter func12,ntmps12
 go_wp2_with fail
 go_loopw [5] (fun d wr=>∃a:Nat,a<=b∧d=iV (a:Int)∧Hid (bW w wr)) (fun d _=>b-(intOf d).toNat)
 case atStart=>exact⟨0,Nat.zero_le _,rfl,aF⟩
 case round =>
  obtain⟨a,z,rfl,c⟩:=hrel
  by_cases o:a<b
  ·have p:(a:Int)<(b:Int):=by omega
   have f:a<xs.length:=by rw[j.out];exact o
   obtain⟨A,B,q,r⟩:=(m.out.later c) a f;obtain⟨C,D,s,t⟩:=(n.out.later c) a f;subst q s;generalize xs[a]'f=E at r t
   go_wp2_with fail
   go_quiet (fail)
   go_wp2_with fail
   go_roundw
   case rel=>exact⟨a+1,by omega,by go_num,aJ c _⟩
   case measure=>simp[intOf];omega
  ·obtain rfl:a=b:=by omega
   have p:¬(a:Int)<(a:Int):=by omega
   go_wp2_with fail
   go_ret
   exact⟨rfl,c⟩
def eL:Bs->List Bs
 | []=>[[]]
 | c::r=>if c=32 then[]::eL r else match eL r with
  | []=>[[c]]
  | h::t=>(c::h)::t
theorem ud(r:Bs):Lib.indexByte (32::r) 32=0:=by
 unfold Lib.indexByte;simp
theorem rD(c:UInt8)(r:Bs)(h:c≠32):Lib.indexByte (c::r) 32=if Lib.indexByte r 32=-1 then -1 else Lib.indexByte r 32+1:=by
 rw[Lib.indexByte];simp[h]
theorem zH:∀r:Bs,Lib.indexByte r 32=-1∨0<=Lib.indexByte r 32
 | []=>.inl rfl
 | c::r=>by
  by_cases h:c=32
  ·subst h;rw[ud];exact .inr (Int.le_refl 0)
  ·rw[rD c r h]
   rcases zH r with q|q
   ·rw[af q];exact .inl rfl
   ·rw[aa (by omega)];right;omega
theorem uQ:∀r:Bs,Lib.indexByte r 32=-1 ↔ r.count 32=0
 | []=>⟨fun _=>rfl,fun _=>rfl⟩
 | c::r=>by
  by_cases h:c=32
  ·subst h
   rw[ud,List.count_cons_self];constructor
   ·intro q;omega
   ·intro q;omega
  ·rw[rD c r h,List.count_cons_of_ne h]
   have a:=uQ r;have d:=zH r;constructor
   ·intro q
    refine a.1 ?_;rcases d with b|b
    ·exact b
    ·rw[aa (by omega)]at q;omega
   ·intro q
    rw[af (a.2 q)]
theorem aa6:∀s:Bs,Lib.splitK [32] 0 (s.count 32) s=eL s
 | []=>rfl
 | c::r=>by
  have e:=aa6 r
  by_cases a:c=32
  ·subst a
   rw[List.count_cons_self];unfold Lib.splitK eL;rw[Lib.index_one,ud,aa (by decide),af rfl];simp only[Int.toNat_zero,List.take_zero,Nat.zero_add,Nat.add_zero,List.length_singleton,List.drop_succ_cons,List.drop_zero];rw[e]
  ·rw[List.count_cons_of_ne a]
   unfold eL;rw[aa a,<-e]
   cases f:r.count 32 with
   | zero=>rfl
   | succ j =>
    have g:¬Lib.indexByte r 32=-1:=fun h=>by rw[(uQ r).1 h]at f;cases f
    obtain⟨b,i⟩:∃b:Nat,Lib.indexByte r 32=(b:Int):=by
     rcases zH r with d|d
     ·exact absurd d g
     ·exact⟨_,(Int.toNat_of_nonneg d).symm⟩
    unfold Lib.splitK;rw[Lib.index_one,Lib.index_one,rD c r a,aa g,i];rw[aa (by simp;omega),aa (by simp)];simp only[aU,show((b:Int)+1).toNat=b+1 by omega,List.length_singleton,Nat.add_zero,List.take_succ_cons,List.drop_succ_cons]
theorem sq(s:ByteArray):eZ s=eL s.data.toList:=by
 unfold eZ cB;rw[Lib.splitB_data];show Lib.splitK [32] 0 (Lib.count s.data.toList [32]) s.data.toList=_;rw[Lib.count_one];exact aa6 _
def ic:List ByteArray:=[⟨#[115,105,116,101,115,32,49,32,49]⟩,⟨#[98,101,103,105,110,32,48,32,51]⟩,⟨#[97,108,108]⟩,⟨#[115,116,97,116,101,32,49,32,51]⟩,⟨#[101,118,101,110,116,115]⟩]
def kz:List Bs:=[[111,107],[111,107],[49,48],[99,111,109,109,105,116,116,101,100,32,48,32,48],[48,32,51,32,99,111,109,109,105,116,116,101,100,44,32,49,32,51,32,99,111,109,109,105,116,116,101,100]]
theorem wH:ic.map eZ=[[[115,105,116,101,115],[49],[49]],[[98,101,103,105,110],[48],[51]],[[97,108,108]],[[115,116,97,116,101],[49],[51]],[[101,118,101,110,116,115]]]:=by
 have:ic.map eZ=ic.map fun a=>eL a.data.toList:=List.map_congr_left fun a _=>sq a
 rw[this];decide
theorem agA:cM none [[115,105,116,101,115],[49],[49]]=((0,[111,107]),some ([1,1],dM)):=by
 unfold cM;rw[show dB (([[115,105,116,101,115],[49],[49]]:List Bs).headD [])=some 0 by decide];simp only;rw[show dK (dj.getD 0 []) (0==0) ([[115,105,116,101,115],[49],[49]]:List Bs).tail=some [1,1] by decide];rfl
theorem ag7:cM (some ([1,1],dM)) [[98,101,103,105,110],[48],[51]]=((0,[111,107]),some ([1,1],dP [1,1] dM 0 3)):=by
 unfold cM;rw[show dB (([[98,101,103,105,110],[48],[51]]:List Bs).headD [])=some 1 by decide];simp only;rw[show dK (dj.getD 1 []) (1==0) ([[98,101,103,105,110],[48],[51]]:List Bs).tail=some [0,3] by decide];show(((eO 2 dM 0 3,[111,107]):Nat×Bs),some (([1,1]:List Int),if eO 2 dM 0 3=0 then dP [1,1] dM 0 3 else dM))=_;rw[jF.2.2.2];rfl
theorem agT(V:PX):cM (some ([1,1],V)) [[97,108,108]]=((0,Lib.decDigits (ej [1,1] 3000 V)),some ([1,1],dc [1,1] 3000 V)):=by
 unfold cM;rw[show dB (([[97,108,108]]:List Bs).headD [])=some 13 by decide];simp only;rw[show dK (dj.getD 13 []) (13==0) ([[97,108,108]]:List Bs).tail=some [] by decide];rfl
theorem af8(V:PX):cM (some ([1,1],V)) [[115,116,97,116,101],[49],[51]]=((0,iR (stN (V.nd 1) 3).ph (stN (V.nd 1) 3).pr (stN (V.nd 1) 3).at_),some ([1,1],V)):=by
 unfold cM;rw[show dB (([[115,116,97,116,101],[49],[51]]:List Bs).headD [])=some 15 by decide];simp only;rw[show dK (dj.getD 15 []) (15==0) ([[115,116,97,116,101],[49],[51]]:List Bs).tail=some [1,3] by decide];rfl
theorem aho(V:PX):cM (some ([1,1],V)) [[101,118,101,110,116,115]]=((0,eB V.evs),some ([1,1],V)):=by
 unfold cM;rw[show dB (([[101,118,101,110,116,115]]:List Bs).headD [])=some 18 by decide];simp only;rw[show dK (dj.getD 18 []) (18==0) ([[101,118,101,110,116,115]]:List Bs).tail=some [] by decide];rfl
theorem abW:(eh none (ic.map eZ)).1=kz:=by
 rw[wH];simp only[eh,agA,ag7,agT,af8,aho];rw[jF.1,jF.2.1,jF.2.2.1];have b:Lib.decDigits 10=[49,48]:=by rw[Lib.decDigits_two (by decide) (by decide)];rfl
 have a:Lib.decDigits 0=[48]:=by rw[Lib.decDigits_one (by decide)];rfl
 have c:Lib.decDigits 1=[49]:=by rw[Lib.decDigits_one (by decide)];rfl
 have d:Lib.decDigits 3=[51]:=by rw[Lib.decDigits_one (by decide)];rfl
 have e:iR 2 0 0=[99,111,109,109,105,116,116,101,100,32,48,32,48]:=by
  show cI 2++32::(Lib.decDigits 0++32::Lib.decDigits 0)=_;rw[a];rfl
 have f:eB [⟨0,3,2⟩,⟨1,3,2⟩]=[48,32,51,32,99,111,109,109,105,116,116,101,100,44,32,49,32,51,32,99,111,109,109,105,116,116,101,100]:=by
  unfold eB;rw[aa (by simp)];show Lib.join [Lib.decDigits 0++32::(Lib.decDigits 3++32::cI 2),Lib.decDigits 1++32::(Lib.decDigits 3++32::cI 2)] [44,32]=_;rw[a,c,d];rfl
 rw[b,e,f];rfl
theorem abk{w:World}{A:Nat->Addr}(i:Held9 w A)(j:TabO w)(k:se w A):Calls prog 6 #[] w fun e w'=>e=.returned (.bool true)∧Below w.heap.size w w':=by
 obtain⟨b,f⟩:=nmd (w.alloc (.cells (ic.map Value.string).toArray 9));have d:bW w b:=by rw[<-f.out];exact aD
 have s:SlS b (.slice (some ⟨w.heap.size,0,none⟩) 5 5) ic:=by rw[<-f.out];exact SlS.lit w 9 ic 5 rfl
 obtain⟨F,cap,e,l⟩:=s;injection e with t u v
 subst t v;have m:=hid (sA (w:=b) (A:=A) (some ⟨w.heap.size,0,none⟩) 5 ic (by decide) (by decide) l (i.later d) (j.later d) (fun x y=>ag d (k x y)));rw[show ic.length=5 from rfl,abW]at m;have z:=hid d;have G:w.alloc (.cells #[.string ⟨#[115,105,116,101,115,32,49,32,49]⟩,.string ⟨#[98,101,103,105,110,32,48,32,51]⟩,.string ⟨#[97,108,108]⟩,.string ⟨#[115,116,97,116,101,32,49,32,51]⟩,.string ⟨#[101,118,101,110,116,115]⟩] 9)=b:=f.out;clear u l i j k d
 go_enter func6,ntmps6
 go_wp2_with fail
 refine m.mono ?_;rintro e a ⟨n,rfl,o,p⟩;have B:Hid (SlS a n (kz.map bB)):=SlS.owned (n:=5) rfl o;obtain⟨c,g⟩:=nmd (a.alloc (.cells ((kz.map bB).map Value.string).toArray 9));have h:bW a c:=by rw[<-g.out];exact aD
 have q:SlS c (.slice (some ⟨a.heap.size,0,none⟩) 5 5) (kz.map bB):=by rw[<-g.out];exact SlS.lit a 9 (kz.map bB) 5 rfl
 have C:=hid (sG n _ _ c (B.later h) q (by decide));have D:=hid (ao z (ao p h));have H:a.alloc (.cells #[.string ⟨#[111,107]⟩,.string ⟨#[111,107]⟩,.string ⟨#[49,48]⟩,.string ⟨#[99,111,109,109,105,116,116,101,100,32,48,32,48]⟩,.string ⟨#[48,32,51,32,99,111,109,109,105,116,116,101,100,44,32,49,32,51,32,99,111,109,109,105,116,116,101,100]⟩] 9)=c:=g.out;clear o p h q
 go_wp2_with fail
 refine C.mono ?_;rintro e I ⟨rfl,r⟩;have E:=hid (ao D r);clear r
 go_wp2_with fail
 go_ret
 exact⟨rfl,E⟩
def bP:List Bs:=[[43],[100,100],[100,100],[100],[110],[110],[110],[100,100],[100,100],[100,110],[100],[100],[],[],[],[100,100],[100,100],[100],[]]
def nF(s:Bs):Value:=match dB s with
 | none=>.tuple #[.string ⟨#[]⟩,.bool false]
 | some i=>.tuple #[.string (bB (bP.getD i [])),.bool true]
def fD(s:ByteArray)(i:Nat):Prop:=∀j,j<19->(s.toList==dh.getD j [])=(j==i)
theorem rR{s:ByteArray}{i:Nat}(h:dB s.data.toList=some i):fD s i:=fun a d=>by
 obtain⟨j,e⟩:=fL h;rw[Lib.toList_data];have b:dh[a]?=some (dh.getD a []):=by
  rw[List.getD,cG (show a<dh.length from d)];rfl
 by_cases c:a=i
 ·subst c
  rw[e]at b;rw[<-bF b];simp
 ·rw[show(a==i)=false by simpa using c]
  cases f:(s.data.toList==dh.getD a [])with
  | false=>rfl
  | true =>
   have g:=eq_of_beq f;rw[<-g]at b;have:=(ox b).symm.trans h;exact absurd (bF this) c
theorem acY{s:ByteArray}(h:dB s.data.toList=none):fD s 19:=fun a c=>by
 rw[Lib.toList_data,show(a==19)=false by simp;omega];have b:dh[a]?=some (dh.getD a []):=by
  rw[List.getD,cG (show a<dh.length from c)];rfl
 cases d:(s.data.toList==dh.getD a [])with
 | false=>rfl
 | true =>
  have e:=eq_of_beq d;rw[<-e]at b;rw[ox b]at h;cases h
theorem gm{s:ByteArray}{i:Nat}(h:fD s i):(s.toList==[115,105,116,101,115])=(0==i)∧(s.toList==[98,101,103,105,110])=(1==i)∧(s.toList==[114,101,102,117,115,101])=(2==i)∧(s.toList==[116,105,99,107])=(3==i)∧(s.toList==[103,111])=(4==i)∧(s.toList==[108,111,115,101])=(5==i)∧(s.toList==[116,119,105,99,101])=(6==i)∧(s.toList==[108,105,110,107])=(7==i)∧(s.toList==[98,114,101,97,107])=(8==i)∧(s.toList==[99,117,116])=(9==i)∧(s.toList==[100,111,119,110])=(10==i)∧(s.toList==[117,112])=(11==i)∧(s.toList==[99,104,101,99,107])=(12==i)∧(s.toList==[97,108,108])=(13==i)∧(s.toList==[102,108,121])=(14==i)∧(s.toList==[115,116,97,116,101])=(15==i)∧(s.toList==[108,101,97,100])=(16==i)∧(s.toList==[105,115])=(17==i)∧(s.toList==[101,118,101,110,116,115])=(18==i):=
 ⟨h 0 (by decide),h 1 (by decide),h 2 (by decide),h 3 (by decide),h 4 (by decide),h 5 (by decide),h 6 (by decide),h 7 (by decide),h 8 (by decide),h 9 (by decide),h 10 (by decide),h 11 (by decide),h 12 (by decide),h 13 (by decide),h 14 (by decide),h 15 (by decide),h 16 (by decide),h 17 (by decide),h 18 (by decide)⟩
theorem ajy{i:Nat}(h:i<19):i=0∨i=1∨i=2∨i=3∨i=4∨i=5∨i=6∨i=7∨i=8∨i=9∨i=10∨i=11∨i=12∨i=13∨i=14∨i=15∨i=16∨i=17∨i=18:=by omega
section
variable {s:ByteArray} {w:World}
theorem rB(s:ByteArray)(w:World):Calls prog 9 #[.string s] w fun e w'=>e=.returned (nF s.data.toList)∧w'=w:=by
 unfold nF
 cases a:dB s.data.toList with
 | none =>
  have b:=acY a;clear a;obtain⟨c,d,f,g,h,i,j,k,l,m,n,o,p,q,r,t,u,v,x⟩:=gm b;clear b
  go_enter func9,ntmps9
  go_wp2_with fail
  go_ret2
  exact⟨rfl,rfl⟩
 | some z =>
  have y:=ajy (fL a).1;have b:=rR a;clear a;rcases y with rfl|rfl|rfl|rfl|rfl|rfl|rfl|rfl|rfl|rfl|rfl|rfl|rfl|rfl|rfl|rfl|rfl|rfl|rfl<;>as_aux_lemma =>
  obtain⟨c,d,f,g,h,i,j,k,l,m,n,o,p,q,r,t,u,v,x⟩:=gm b;clear b
  go_enter func9,ntmps9
  go_wp2_with fail
  go_ret2
  exact⟨rfl,rfl⟩
end
theorem ah0(n:Nat):Lib.decDigits n≠[]:=fun b=>by
 have a:=Lib.decDigits_length n;have c:=Lib.nDigits_pos n;rw[b]at a;simp at a;omega
theorem ahc{xs:List Bs}{b:Bs}{x:Bs}(c:x≠[]):Lib.join (x::xs) b≠[]:=fun a=>by
 rw[Lib.join_cons]at a;exact c (List.append_eq_nil_iff.1 a).1
theorem pt:∀(st:PSt) (ls:List (List Bs)),(eh st ls).1.length=ls.length
 | _,[]=>rfl
 | st,l::r=>by
  show(eh (cM st l).2 r).1.length+1=r.length+1;rw[pt _ r]
theorem qq{k:Nat}(h:k<10):(UInt8.ofNat (48+k)).toNat=48+k:=by
 rw[UInt8.toNat_ofNat',Nat.mod_eq_of_lt (by omega)]
theorem afp(n:Nat):dA (Lib.decDigits n) 0=some n:=by
 induction n using Nat.strongRecOn with
 | _ n b =>
  by_cases a:n<10
  ·rw[Lib.decDigits_one a]
   unfold dA;rw[qq a,aa (by omega)];unfold dA
   congr 1
   omega
  ·rw[Lib.decDigits,dif_neg a,fV _ _ _ _ (b (n / 10) (by omega)),qq (by omega),aa (by omega)]
   congr 1
   omega
theorem aeM(n:Nat)(h:0<n):(Lib.decDigits n).getD 0 0≠48:=by
 induction n using Nat.strongRecOn with
 | _ n b =>
  by_cases a:n<10
  ·rw[Lib.decDigits_one a]
   intro c;have d:UInt8.ofNat (48+n)=48:=c;have:=qq a;rw[d]at this;have e:(48:UInt8).toNat=48:=rfl;omega
  ·rw[Lib.decDigits,dif_neg a]
   have f:=b (n / 10) (by omega) (by omega);have e:=Lib.decDigits_length (n / 10);have g:=Lib.nDigits_pos (n / 10);rw[List.getD,List.getElem?_append_left (by omega)];exact f
theorem pH{n k:Nat}(h:n<10^k)(e:0<k):(Lib.decDigits n).length<=k:=by
 rw[Lib.decDigits_length]
 induction k generalizing n with
 | zero=>omega
 | succ k c =>
  by_cases b:n<10
  ·rw[Lib.nDigits_small b];omega
  ·rw[Lib.nDigits_big b]
   have d:0<k:=by
    rcases Nat.eq_zero_or_pos k with a|a
    ·subst a;simp at h;omega
    ·exact a
   have:=c (n:=n / 10) (by rw[Nat.pow_succ]at h;omega) d;omega
theorem agw{n k:Nat}(h:n<10^k)(d:0<k):eX k (Lib.decDigits n)=some n:=by
 have f:=pH h d;have b:=Lib.decDigits_length n;have g:=Lib.nDigits_pos n;unfold eX;rw[aa,afp];rintro(a|a|⟨c,e⟩)
 ·rw[a]at b;simp at b;omega
 ·omega
 ·rcases Nat.eq_zero_or_pos n with a|a
  ·subst a;rw[Lib.decDigits_one (by omega)]at c;simp at c
  ·exact aeM n a e
theorem tV(n:Nat):∀c,c∈Lib.decDigits n->c≠32:=by
 induction n using Nat.strongRecOn with
 | _ n g =>
  have f:∀a,a<10->UInt8.ofNat (48+a)≠32:=fun a h i=>by
   have:=qq h;rw[i]at this;have j:(32:UInt8).toNat=32:=rfl;omega
  by_cases b:n<10
  ·rw[Lib.decDigits_one b]
   intro c d;rw[List.mem_singleton.1 d];exact f n b
  ·rw[Lib.decDigits,dif_neg b]
   intro c d;rcases List.mem_append.1 d with e|e
   ·exact g (n / 10) (by omega) c e
   ·rw[List.mem_singleton.1 e]
    exact f _ (by omega)
def db:List Int->Bs
 | []=>[]
 | n::r=>32::(Lib.decDigits n.toNat++db r)
def pI(ns:List Int):List Bs:=ns.map fun n=>Lib.decDigits n.toNat
theorem uK:∀(wd r:Bs),(∀c,c∈wd->c≠32)->eL (wd++32::r)=wd::eL r
 | [],r,_=>by simp[eL]
 | c::wd,r,h=>by
  rw[List.cons_append,eL,aa (h c List.mem_cons_self),uK wd r (fun d a=>h d (List.mem_cons_of_mem _ a))]
theorem xC:∀(wd:Bs),(∀c,c∈wd->c≠32)->eL wd=[wd]
 | [],_=>rfl
 | c::wd,h=>by
  rw[eL,aa (h c List.mem_cons_self),xC wd (fun d a=>h d (List.mem_cons_of_mem _ a))]
theorem vk:∀(a:List Int) (wd:Bs),(∀c,c∈wd->c≠32)->eL (wd++db a)=wd::pI a
 | [],wd,h=>by rw[db,List.append_nil];exact xC wd h
 | n::r,wd,h=>by
  rw[db,uK wd _ h,vk r _ (tV _)];rfl
theorem qW:∀(a:List Int) (n:Int),db (a++[n])=db a++32::Lib.decDigits n.toNat
 | [],n=>by simp[db]
 | m::r,n=>by
  rw[List.cons_append,db,qW r n,db];simp
def ih(f:Bs)(i:Nat):Int:=if f≠[43]∧f.getD i 0=100 then 9 else 99999
def ze(f:Bs):Nat->List Int->Bool
 | _,[]=>true
 | i,n::r=>(decide (0<=n)&&decide (n<=ih f i))&&ze f (i+1) r
abbrev eE(f:Bs)(i:Nat)(ns:List Int):Prop:=ze f i ns=true
theorem bL{f:Bs}{i:Nat}{n:Int}{r:List Int}:eE f i (n::r) ↔ (0<=n∧n<=ih f i)∧eE f (i+1) r:=by
 simp[eE,ze]
abbrev gf(i:Nat)(ns:List Int):Prop:=if i=0 then ns≠[]else ns.length=(bP.getD i []).length
def kf(wd:Bs)(ns:List Int):Option Bs:=match dB wd with
 | none=>none
 | some i=>if gf i ns∧eE (bP.getD i []) 0 ns then some (wd++db ns)else none
theorem aeg{i j:Nat}(d:i<19)(e:i≠0->j<(bP.getD i []).length){n:Int}(h0:0<=n)(h:n<=ih (bP.getD i []) j):n.toNat<10^eU ((dj.getD i []).getD (min j ((dj.getD i []).length-1)) 0)∧0<eU ((dj.getD i []).getD (min j ((dj.getD i []).length-1)) 0):=by
 rcases Nat.eq_zero_or_pos i with a|a
 ·subst a
  have f:ih (bP.getD 0 []) j=99999:=by unfold ih;rw[aa];rintro⟨g,-⟩;exact g rfl
  have k:min j ((dj.getD 0 []).length-1)=0:=Nat.min_eq_right (Nat.zero_le j);rw[k];rw[f]at h;have l:eU ((dj.getD 0 []).getD 0 0)=5:=by decide
  rw[l];exact⟨by omega,by omega⟩
 ·have m:=e (by omega)
  have key:∀i,i<19->0<i->∀j,j<(bP.getD i []).length->min j ((dj.getD i []).length-1)=j∧((ih (bP.getD i []) j=9∧eU ((dj.getD i []).getD j 0)=1)∨(ih (bP.getD i []) j=99999∧eU ((dj.getD i []).getD j 0)=5)):=by decide
  obtain⟨o,p⟩:=key i d a j m;rw[o];rcases p with⟨b,c⟩|⟨b,c⟩
  ·rw[b]at h;rw[c];exact⟨by omega,by omega⟩
  ·rw[b]at h;rw[c];exact⟨by omega,by omega⟩
theorem nE{i:Nat}(d:i<19):∀(a:List Int) (j:Nat),(i≠0->j+a.length<=(bP.getD i []).length)->eE (bP.getD i []) j a->dD (dj.getD i []) j (pI a)=some a
 | [],j,_,_=>rfl
 | b::r,j,e,g=>by
  obtain⟨⟨h0,h1⟩,h⟩:=bL.1 g;have f:=aeg d (j:=j) (fun c=>by have:=e c;rw[bq]at this;omega) h0 h1;show(match eX (eU ((dj.getD i []).getD (min j ((dj.getD i []).length-1)) 0)) (Lib.decDigits b.toNat)with|none=>none|some b=>(dD (dj.getD i []) (j+1) (pI r)).map (fun k=>(b:Int)::k))=_
  rw[agw f.1 f.2,nE d r (j+1) (fun c=>by have:=e c;rw[bq]at this;omega) h];simp only[Option.map_some];rw[Int.toNat_of_nonneg h0]
theorem abl{i:Nat}(d:i<19){a:List Int}(c:gf i a)(f:eE (bP.getD i []) 0 a):dK (dj.getD i []) (i==0) (pI a)=some a:=by
 have key:∀i,i<19->0<i->(dj.getD i []).length=(bP.getD i []).length:=by decide
 unfold dK;unfold gf at c;have g:(pI a).length=a.length:=by unfold pI;rw[List.length_map]
 rcases Nat.eq_zero_or_pos i with e|e
 ·subst e
  rw[af rfl]at c;rw[aa,nE d a 0 (fun b=>absurd rfl b) f];rintro(b|⟨-,b⟩)
  ·rw[g]at b
   have h:(dj.getD 0 []).length=1:=rfl;rw[h]at b;exact c (List.length_eq_zero_iff.1 (by omega))
  ·cases b
 ·rw[aa (by omega)]at c
  rw[aa,nE d a 0 (fun _=>by omega) f];rw[g,key i d e];omega
theorem tB{wd:Bs}{i:Nat}(h:dB wd=some i):∀c,c∈wd->c≠32:=by
 obtain⟨d,b⟩:=fL h;have key:∀a,a∈dh->∀c,c∈a->c≠32:=by decide
 exact key wd (List.mem_of_getElem? b)
theorem aeX{wd:Bs}{i:Nat}(h:dB wd=some i):wd.length<=6:=by
 obtain⟨c,b⟩:=fL h;have key:∀a,a∈dh->a.length<=6:=by decide
 exact key wd (List.mem_of_getElem? b)
theorem sw{wd l:Bs}{a:List Int}(h:kf wd a=some l):∃i,i<19∧dB wd=some i∧gf i a∧eE (bP.getD i []) 0 a∧l=wd++db a∧∀st,cM st (eL l)=cz st i a:=by
 unfold kf at h
 cases c:dB wd with
 | none=>rw[c]at h;cases h
 | some i =>
  rw[c]at h;simp only at h;obtain⟨d,e⟩:=fL c
  by_cases b:gf i a∧eE (bP.getD i []) 0 a
  ·rw[af b]at h
   obtain rfl:=bF h;refine⟨i,d,rfl,b.1,b.2,rfl,fun st=>?_⟩;rw[vk _ _ (tB c)];unfold cM;rw[show(wd::pI a).headD []=wd from rfl,c];simp only[List.tail_cons];rw[abl d b.1 b.2]
  ·rw[aa b]at h;cases h
theorem rZ(f:Bs):∀(a:List Int) (j:Nat),eE f j a->(db a).length<=6*a.length
 | [],_,_=>aj
 | n::r,j,h0=>by
  have h:=bL.1 h0;have b:=rZ f r (j+1) h.2;have c:n<=99999:=by
   have:=h.1.2;unfold ih at this
   split at this<;>omega
  have d:=pH (n:=n.toNat) (k:=5) (by omega) (by decide);unfold db;simp;omega
theorem ado{wd l:Bs}{a:List Int}(h:kf wd a=some l):l.length<=6+6*a.length:=by
 obtain⟨d,e,b,f,c,rfl,-⟩:=sw h;have g:=aeX b;have i:=rZ _ a 0 c;rw[aR];omega
theorem ad0(a:Bs)(c:UInt8):bB a++bA [c]=bB (a++[c]):=fX a [c]
theorem gF(n:Nat)(h:n<9223372036854775808):(bB (Lib.decDigits n)).size<=19:=by
 show(Lib.decDigits n).length<=19;exact pH (by omega) (by decide)
theorem ab8(n:Nat):∀(w:World),n<9223372036854775808->Calls prog 79 #[.int .i64 (-(n:Int))] w fun e w'=>e=.returned (.string (bB (Lib.decDigits n)))∧Below w.heap.size w w':=by
 induction n using Nat.strongRecOn with
 | _ n c =>
  intro w r
  by_cases f:n<10
  ·have l:(-(10:Int)) < -(n:Int):=by omega
   have d:Hid ((48:Int)+(n:Int)=((48+n:Nat):Int)):=by change _=_;omega
   have a:=hid (kT (48+n) w (by omega));rw[Lib.decDigits_one f];generalize UInt8.ofNat (48+n)=g at a ⊢;clear c
   go_enter func79,ntmps79
   go_wp2_with fail
   rw[d.out];refine a.mono ?_;rintro e h ⟨rfl,b⟩
   go_wp2_with fail
   go_ret
   exact⟨rfl,b⟩
  ·have l:¬(-(10:Int)) < -(n:Int):=by omega
   have d:Hid ((n:Int) / 10=((n / 10:Nat):Int)):=by change _=_;omega
   have m:Hid ((48:Int)+(n:Int)%10=((48+n%10:Nat):Int)):=by change _=_;omega
   have i:=hid (c (n / 10) (by omega) w (by omega));have a:Hid (∀w,Calls prog 143 #[iV ((48+n%10:Nat):Int)] w fun e w'=>e=.returned (.string (bA [UInt8.ofNat (48+n%10)]))∧bW w w'):=fun w=>kT (48+n%10) w (by omega)
   have j:Lib.decDigits n=Lib.decDigits (n / 10)++[UInt8.ofNat (48+n%10)]:=by rw[Lib.decDigits,dif_neg f]
   rw[j,<-ad0];have o:=gF (n / 10) (by omega);generalize UInt8.ofNat (48+n%10)=g at a ⊢;generalize bB (Lib.decDigits (n / 10))=s at i o ⊢;have t:(bA [g]).size=1:=bX _;clear c j
   go_enter func79,ntmps79
   go_wp2_with fail
   rw[d.out];refine i.mono ?_;rintro e h ⟨rfl,b⟩;have p:=hid b;clear b
   go_wp2_with fail
   rw[m.out];refine(a h).mono ?_;rintro e u ⟨rfl,k⟩;have q:=hid (ao p k);clear k
   go_wp2_with fail
   go_ret
   exact⟨rfl,q⟩
theorem gl(n:Nat)(w:World)(a:n<9223372036854775808):Calls prog 20 #[.int .i64 (n:Int)] w fun e w'=>e=.returned (.string (bB (Lib.decDigits n)))∧Below w.heap.size w w':=by
 have d:¬(n:Int)<0:=by omega
 have b:=hid (ab8 n w a)
 go_enter func20,ntmps20
 go_wp2_with fail
 refine b.mono ?_;rintro e f ⟨rfl,c⟩
 go_wp2_with fail
 go_ret
 exact⟨rfl,c⟩
def kZ:List Bs:=[[116,101,120,116],[98,111,117,110,100],[115,104,97,112,101],[110,111,110,101],[102,117,108,108],[111,102,102],[115,117,109],[104,101,108,100],[115,112,108,105,116]]
theorem lh(c:Nat)(f:c<9)(w:World):Calls prog 10 #[.int .i64 ((c+1:Nat):Int)] w fun e w'=>e=.returned (.string (bB (fC (c+1))))∧Below w.heap.size w w':=by
 obtain⟨b,g⟩:=nmd (w.alloc (.cells (kZ.map fun i=>Value.string (bB i)).toArray 9));have k:Hid (bW w b):=by rw[<-g.out];exact aD
 have d:c<kZ.length:=f;have l:b.cell? ⟨w.heap.size,c,none⟩=some (.string (bB (kZ[c]'d))):=by
  rw[<-g.out,ai (aB w _),List.getElem?_toArray,List.getElem?_map,cG d];rfl
 have j:(⟨#[116,104,114,101,101,102,111,108,100,58,32]⟩:ByteArray)++bB (kZ[c]'d)=bB (fC (c+1)):=by
  have key:∀a (h:a<9),([116,104,114,101,101,102,111,108,100,58,32]:Bs)++kZ[a]'h=fC (a+1):=by decide
  rw[<-key c f];exact fX [116,104,114,101,101,102,111,108,100,58,32] _
 have n:((c+1:Nat):Int)-1=(c:Int):=by omega
 have o:w.alloc (.cells #[.string ⟨#[116,101,120,116]⟩,.string ⟨#[98,111,117,110,100]⟩,.string ⟨#[115,104,97,112,101]⟩,.string ⟨#[110,111,110,101]⟩,.string ⟨#[102,117,108,108]⟩,.string ⟨#[111,102,102]⟩,.string ⟨#[115,117,109]⟩,.string ⟨#[104,101,108,100]⟩,.string ⟨#[115,112,108,105,116]⟩] 9)=b:=g.out;have p:(c:Int)<9:=by omega
 rw[<-j];have m:(bB (kZ[c]'d)).size<=5:=by
  have key:∀a (h:a<9),(kZ[a]'h).length<=5:=by decide
  exact key c f
 have q:(⟨#[116,104,114,101,101,102,111,108,100,58,32]⟩:ByteArray).size=11:=rfl;clear j;generalize bB (kZ[c]'d)=i at l m ⊢
 go_enter func10,ntmps10
 go_wp2_with fail
 go_ret
 exact⟨rfl,k⟩
theorem kC(c:Nat)(f:c<=9)(w:World):Calls prog 15 #[.int .i64 (c:Int)] w fun e w'=>e=.returned (.string (bB (gu (c,[111,107]))))∧Below w.heap.size w w':=by
 cases c with
 | zero =>
  go_enter func15,ntmps15
  go_wp2_with fail
  go_ret
  exact⟨rfl,aF⟩
 | succ c =>
  have g:(0:Int)<((c+1:Nat):Int):=by omega
  have a:=hid (lh c (by omega) w);have b:gu (c+1,[111,107])=fC (c+1):=rfl;rw[b]
  go_enter func15,ntmps15
  go_wp2_with fail
  refine a.mono ?_;rintro e h ⟨rfl,d⟩
  go_wp2_with fail
  go_ret
  exact⟨rfl,d⟩
def aa5:List Bs:=[[110,111,116,104,105,110,103],[118,111,116,101,100],[99,111,109,109,105,116,116,101,100],[97,98,111,114,116,101,100],[112,114,101,99,111,109,109,105,116],[112,114,101,97,98,111,114,116]]
theorem aeJ:∀(p:Nat) (a:p<6),aa5[p]'a=cI (p:Int):=by decide
theorem nx(p:Nat)(d:p<6)(w:World):Calls prog 33 #[.int .i64 (p:Int)] w fun e w'=>e=.returned (.string (bB (cI (p:Int))))∧Below w.heap.size w w':=by
 obtain⟨a,c⟩:=nmd (w.alloc (.cells (aa5.map fun b=>Value.string (bB b)).toArray 9));have f:Hid (bW w a):=by rw[<-c.out];exact aD
 have g:a.cell? ⟨w.heap.size,p,none⟩=some (.string (bB (cI (p:Int)))):=by
  have h:p<aa5.length:=d;rw[<-c.out,ai (aB w _),List.getElem?_toArray,List.getElem?_map,cG h];exact congrArg (fun b=>some (Value.string (bB b))) (aeJ p d)
 have i:w.alloc (.cells #[.string ⟨#[110,111,116,104,105,110,103]⟩,.string ⟨#[118,111,116,101,100]⟩,.string ⟨#[99,111,109,109,105,116,116,101,100]⟩,.string ⟨#[97,98,111,114,116,101,100]⟩,.string ⟨#[112,114,101,99,111,109,109,105,116]⟩,.string ⟨#[112,114,101,97,98,111,114,116]⟩] 9)=a:=c.out;have j:(p:Int)<6:=by omega
 generalize cI (p:Int)=b at g ⊢
 go_enter func33,ntmps33
 go_wp2_with fail
 go_ret
 exact⟨rfl,f⟩
end Go.Proofs.YtaehdgemkafinaaGreatDoor
