/-
  On the way to SPlaysProof: Q8 QS QD QG QH RQ.
-/
import Derived.Test.YtaehdgemkafinaaGreatDoorBx11
import Derived.Test.YtaehdgemkafinaaGreatDoorBx8
import Derived.Test.YtaehdgemkafinaaGreatDoorBx7
import Derived.Test.YtaehdgemkafinaaGreatDoorBx10
set_option maxHeartbeats 8000000
set_option maxRecDepth 100000
namespace Go.Proofs.YtaehdgemkafinaaGreatDoor
open Go.RowKit
open Go.Proofs.Tryz
theorem ah9(b a n cap:Nat)(w:World):(binOp .eql 34 (.slice (some ⟨b,a,none⟩) n cap) (.slice none 0 0)).run prog w=.ok (.bool false) w:=by
 rfl
theorem sS(v:Value)(zs:List Int)(w:World)(o:IsSl w v zs)(h1:1<=zs.length)(D:zs.length<=30):Calls prog 154 #[v] w fun e w'=>∃v',e=.returned v'∧w'.ownsRow w.heap.size 3 1 v' zs.length (zs.map (Value.int .i64))∧Below w.heap.size w w':=by
 obtain⟨p,q,r,s,t⟩:=info_parts Tryz.infoInt;obtain⟨E,cap,rfl,u,-,h⟩:=o;have x:=hid u;obtain⟨f,g,rfl,i⟩:=h (by omega);have y:Hid (∀j:Obj,∀a c,(zs.map (Value.int .i64))[a]?=some c->(w.alloc j).cell? ((⟨f,g,none⟩:Addr).add a)=some c):=by
  intro j a c b;rw[List.getElem?_map]at b;rcases bU a zs.length with d|d
  ·rw[cG d]at b
   simp at b;subst b;have:=i a d;rw[fw zs a d]at this;rw[cZ];exact bM _ this
  ·rw[List.getElem?_eq_none d]at b;cases b
 clear h i;have z:Hid (∀c∈zs.map (Value.int .i64),c.oneCell'=true):=by
  intro c A;obtain⟨F,-,rfl⟩:=List.mem_map.1 A;rfl
 have k:Hid ((w.alloc (.cells #[] 3)).ownsRow w.heap.size 3 1 (.slice (some ⟨w.heap.size,0,none⟩) 0 0) 0 []):=World.ownsRow_lit w #[] 0 aj (by unfold maxLen;omega) rfl;have G:=ah9 f g zs.length cap
 go_enter func154,ntmps154
 go_wp2_with (at_builtin;refine wpList_append_own _ rfl _ _ 34 rfl w.heap.size 3 p (iV 0) 1 8 underlying34 q r s t rfl (by decide) _ 0 [] rfl k ⟨f,g,none⟩ zs.length cap (zs.map (Value.int .i64)) rfl (by simp) (y _) z (by have:=x.out;omega) (by omega) (by simp) ?_)
 intro v' l m n _;have B:l.ownsRow w.heap.size 3 1 v' zs.length (zs.map (Value.int .i64)):=by simpa using m
 clear m;have C:Hid (bW w l):=(aF.alloc aj (.cells #[] 3)).grown n (by simp) (fun a b=>(k.lt a b).1);clear n
 go_wp2_with fail
 go_ret
 exact⟨_,rfl,B,C⟩
def P0:PL:=⟨0,0,[⟨0,0,0⟩,⟨0,0,0⟩,⟨0,0,0⟩,⟨0,0,0⟩,⟨0,0,0⟩,⟨0,0,0⟩,⟨0,0,0⟩],0,0,false⟩
theorem rX(n:Nat):PW n P0:=⟨rfl,Int.le_refl _,Int.pow_pos (by decide)⟩
theorem uk(A:Nat->Addr)(v:Value)(zs:List Int)(w:World)(a:IsSl w v zs)(b:Held3 w A)(c:bT zs=0):Calls prog 153 #[v] w fun e w'=>e=.returned .nilIface∧w'=w:=by
 have:=nO A v zs w a b;rw[c]at this;exact this
theorem mh(A:Nat->Addr)(v:Value)(zs:List Int)(id:Nat)(deal att:Int)(w:World)(h:IsSl w v zs)(i:Held3 w A)(c:bT zs=0)(E:id<zs.length)(h0:0<=deal)(h1:deal<6):Calls prog 157 #[.int .i64 (id:Int),.int .i64 deal,v,.int .i64 att] w fun e w'=>∃lb b cap,e=.returned (.tuple #[.pointer (some ⟨lb,0,none⟩),.nilIface])∧LD w' lb b cap id deal att zs P0∧Below w.heap.size w w'∧w.heap.size<=b:=by
 have j:=hid h;have k:=hid i;have o:=hid c;obtain⟨p,F,-,-⟩:=bp c;have G:(id:Int)<(zs.length:Int):=by omega
 have H:¬(zs.length:Int)<=(id:Int):=by omega
 obtain⟨I,J,rfl,-,-,-⟩:=h;clear i c
 go_enter func157,ntmps157
 go_wp2_with (go_at_call 153;refine(uk A _ zs _ j k o).mono ?_;rintro e a ⟨rfl,rfl⟩)
 refine(sS _ zs _ j p (by omega)).mono ?_;rintro e a ⟨K,rfl,d,l⟩;rcases d.2 with⟨-,L⟩|⟨m,cap,M,rfl,q,r,s,t,u,x⟩
 ·omega
 have n:=hid d;have f:=hid l;clear d l r s t u x
 go_wp2_with fail
 go_ret2
 have y:m<a.heap.size:=by
  rcases n.2 with⟨g,-⟩|⟨N,O,P,g,-,z,-⟩
  ·cases g
  ·cases g
   exact ah z
 refine⟨a.heap.size,m,cap,rfl,⟨aB a _,fun B C=>bM _ ?_,y,rX _,fun D=>bm (aiZ k D) f.size⟩,f.alloc f.size _,q⟩;have:=n.cellAt B (by omega);rw[Nat.zero_add,this];simp[C]
theorem aaW(A:Nat->Addr)(v:Value)(zs:List Int)(id:Nat)(deal:Int)(w:World)(a:IsSl w v zs)(c:Held3 w A)(d:bT zs=0)(i:id<zs.length)(h0:0<=deal)(h1:deal<6):Calls prog 103 #[.int .i64 (id:Int),.int .i64 deal,v] w fun e w'=>∃lb b cap,e=.returned (.tuple #[.pointer (some ⟨lb,0,none⟩),.nilIface])∧LD w' lb b cap id deal 0 zs P0∧Below w.heap.size w w'∧w.heap.size<=b:=by
 have j:=hid (mh A v zs id deal 0 w a c d i h0 h1);obtain⟨l,m,rfl,-,-,-⟩:=a;clear c d
 go_enter func103,ntmps103
 go_wp2_with fail
 refine j.mono ?_;rintro e n ⟨lb,b,cap,rfl,f,g,h⟩;have k:=hid (And.intro f (And.intro g h));clear f g h
 go_wp2_with fail
 go_ret2
 exact⟨lb,b,cap,rfl,k⟩
theorem uy(A:Nat->Addr)(v:Value)(zs:List Int)(id:Nat)(deal att:Int)(w:World)(a:IsSl w v zs)(c:Held3 w A)(d:bT zs=0)(i:id<zs.length)(h0:0<=deal)(h1:deal<6)(l:1<=att)(m:att<=1048576):Calls prog 164 #[.int .i64 (id:Int),.int .i64 deal,v,.int .i64 att] w fun e w'=>∃lb b cap,e=.returned (.tuple #[.pointer (some ⟨lb,0,none⟩),.nilIface])∧LD w' lb b cap id deal att zs P0∧Below w.heap.size w w'∧w.heap.size<=b:=by
 have j:=hid (mh A v zs id deal att w a c d i h0 h1);obtain⟨n,o,rfl,-,-,-⟩:=a;have p:¬att<1:=by omega
 have q:¬1048576<att:=by omega
 clear c d
 go_enter func164,ntmps164
 go_wp2_with fail
 refine j.mono ?_;rintro e r ⟨lb,b,cap,rfl,f,g,h⟩;have k:=hid (And.intro f (And.intro g h));clear f g h
 go_wp2_with fail
 go_ret2
 exact⟨lb,b,cap,rfl,k⟩
theorem vX{w:World}{lb b cap id:Nat}{deal att:Int}{zs:List Int}{P:PL}(h:LD w lb b cap id deal att zs P):Calls prog 133 #[.pointer (some ⟨lb,0,none⟩)] w fun e w'=>e=.returned (.string (stP P.stt))∧w'=w:=by
 have a:=h.cells.2.2.2.2.1;clear h
 go_enter func133,ntmps133
 go_wp2_with fail
 go_ret
 exact⟨rfl,rfl⟩
theorem zY{w:World}{lb b cap id:Nat}{deal att:Int}{zs:List Int}{P:PL}(h:LD w lb b cap id deal att zs P):Calls prog 189 #[.pointer (some ⟨lb,0,none⟩)] w fun e w'=>e=.returned (.int .i64 P.seen)∧w'=w:=by
 have a:=h.cells.2.2.2.2.2.2.2.1;clear h
 go_enter func189,ntmps189
 go_wp2_with fail
 go_ret
 exact⟨rfl,rfl⟩
theorem uo{w:World}{lb b cap id:Nat}{deal:Int}{zs:List Int}{P:PL}(d:zs.length<=7)(h:LD w lb b cap id deal 0 zs P):Calls prog 105 #[.pointer (some ⟨lb,0,none⟩)] w fun e w'=>∃v,e=.returned v∧FrB w.heap.size w' v (toL id deal 1 0 0 zs.length)∧Below w.heap.size w w':=by
 have i:=h.cells.2.2.1;have f:=hid h;clear h
 go_enter func105,ntmps105
 go_wp2_with fail
 refine(lB lb b cap id deal 0 zs P 1 0 w f d).mono ?_;rintro e j ⟨v,rfl,a,c⟩;have g:=hid (And.intro a c);clear a c
 go_wp2_with fail
 go_ret
 exact⟨_,rfl,g⟩
theorem aiY:((List.range 128).all fun s=>(List.range 7).all fun q=>Nat.testBit s q||decide (s ||| 2^q=s+2^q))=true:=by decide +kernel
theorem aeQ{a:Int}{m:Nat}(h0:0<=a)(h1:a<128)(d:m<7)(b:bit a m=false):iY a m=a+2^m:=by
 obtain⟨c,rfl⟩:=bD h0;have f:c<128:=by omega
 have e:=List.all_eq_true.1 (List.all_eq_true.1 aiY c (List.mem_range.2 f)) m (List.mem_range.2 d);unfold bit at b;rw[aU]at b;rw[b,Bool.false_or]at e;have g:=cK e;have h:(2:Nat)^m<9223372036854775808:=bm (Nat.pow_lt_pow_right (by decide) d) (by decide);unfold iY;rw[fG,ga c (2^m) (by omega) h,g,Int.natCast_add]
theorem mg{P:PL}{att k:Int}(h:fS P att k=true):(k=2∧P.stt=0∧att=0)∨(k=4∧P.stt=0∧0<att)∨(k=6∧P.stt=1):=by
 unfold fS at h;simp at h;omega
theorem mQ{p:Int}{L M:List S3}(h:∀s:S3,s.p=p->(s∈L ↔ s∈M)):gr p L=gr p M:=by
 rcases mD p L with⟨f,⟨d,i,e,o⟩,l⟩|⟨f,m⟩
 ·rcases mD p M with⟨a,⟨b,g,c,n⟩,j⟩|⟨a,k⟩
  ·have q:=j d ((h d e).1 i) e
   have r:=l b ((h b c).2 g) c;refine Prod.ext ?_ (f.trans a.symm);omega
  ·exact absurd e (k d ((h d e).1 i))
 ·rcases mD p M with⟨a,⟨b,g,c,n⟩,j⟩|⟨a,k⟩
  ·exact absurd c (m b ((h b c).2 g))
  ·rw[f,a]
theorem uz{L M:List S3}(h:∀s:S3,s.p≠0->(s∈L ↔ s∈M)):cD L=cD M:=by
 unfold cD;rw[mQ (p:=2) (fun s a=>h s (by omega)),mQ (p:=3) (fun s a=>h s (by omega)),mQ (p:=4) (fun s a=>h s (by omega)),mQ (p:=5) (fun s a=>h s (by omega))]
theorem qJ(b:List F9)(f:F9)(i:Int):bi (b++[f]) i=(bi b i).or (if f.f=i then some f else none):=by
 unfold bi;rw[List.find?_append]
 congr 1
 by_cases a:f.f=i
 ·rw[af a];simp[a]
 ·rw[aa a];simp[a]
theorem lC{a:List F9}{f:F9}{i:Int}(h:f.f≠i):bi (a++[f]) i=bi a i:=by
 rw[qJ,aa h,Option.or_none]
theorem nj{a:List F9}{f:F9}(h:bi a f.f=none):bi (a++[f]) f.f=some f:=by
 rw[qJ,h,af rfl];rfl
theorem qk{a:List F9}{f:F9}{m:Nat}(b:f.f=(m:Int))(c:bi a m=none):∀k,ck (a++[f]) k=ck a k+(if m<k then 2^m else 0)
 | 0=>by simp[ck]
 | k+1=>by
  unfold ck;rw[qk b c k]
  by_cases e:m=k
  ·subst e
   have h1:(bi (a++[f]) (m:Int)).isSome=true:=by rw[<-b,nj (by rw[b];exact c)];rfl
   have g:¬(bi a (m:Int)).isSome=true:=by rw[c];simp
   rw[af h1,aa g,aa (by omega),af (by omega)];omega
  ·rw[lC (by omega)]
   by_cases d:m<k
   ·rw[af d,af (show m<k+1 by omega)];split<;>omega
   ·rw[aa d,aa (show ¬m<k+1 by omega)];split<;>omega
theorem aaq{a:Int}{k:Nat}(h0:0<=a)(h1:a<2^k)(i:Nat):bit (a+2^k) i=(decide (i=k)||bit a i):=by
 obtain⟨c,rfl⟩:=bD h0;have d:c<2^k:=by
  have:((c:Nat):Int)<((2^k:Nat):Int):=by rw[<-fG];exact h1
  omega
 unfold bit;have e:(((c:Nat):Int)+2^k).toNat=2^k+c:=by rw[fG];omega
 rw[e,aU];rcases Nat.lt_trichotomy i k with b|b|b
 ·rw[Nat.testBit_two_pow_add_gt b,aS (by omega)];rfl
 ·subst b
  rw[Nat.testBit_two_pow_add_eq,Nat.testBit_lt_two_pow d,bo rfl];rfl
 ·have f:2^(k+1)<=2^i:=Nat.pow_le_pow_right (by decide) b
  have g:2^(k+1)=2*2^k:=by rw[Nat.pow_succ];omega
  rw[Nat.testBit_lt_two_pow (by omega),Nat.testBit_lt_two_pow (by omega),aS (by omega)];rfl
theorem lq(a:List F9):∀(k i:Nat),bit (ck a k) i=(decide (i<k)&&(bi a i).isSome)
 | 0,i=>by simp[ck,bit]
 | k+1,i=>by
  obtain⟨h0,h1⟩:=kR a k;unfold ck
  by_cases c:(bi a (k:Int)).isSome=true
  ·rw[af c,aaq h0 h1,lq a k i]
   by_cases d:i=k
   ·subst d;rw[c];simp
   ·rw[aS d,Bool.false_or]
    by_cases b:i<k
    ·rw[bo b,bo (show i<k+1 by omega)]
    ·rw[aS b,aS (show ¬i<k+1 by omega)]
  ·rw[aa c,lq a k i]
   by_cases d:i=k
   ·subst d
    have:(bi a (i:Int)).isSome=false:=by simpa using c
    rw[this];simp
   ·by_cases b:i<k
    ·rw[bo b,bo (show i<k+1 by omega)]
    ·rw[aS b,aS (show ¬i<k+1 by omega)]
def fR(hs:List F9):Nat->Nat
 | 0=>0
 | k+1=>if(bi hs k).isSome=true then fR hs k+1 else fR hs k
theorem pB(a:List F9):∀k,fR a k<=k
 | 0=>aj
 | k+1=>by have:=pB a k;unfold fR;split<;>omega
theorem rh{a:List F9}{f:F9}{m:Nat}(b:f.f=(m:Int))(c:bi a m=none):∀k,fR (a++[f]) k=fR a k+(if m<k then 1 else 0)
 | 0=>by simp[fR]
 | k+1=>by
  unfold fR;rw[rh b c k]
  by_cases e:m=k
  ·subst e
   have h1:(bi (a++[f]) (m:Int)).isSome=true:=by rw[<-b,nj (by rw[b];exact c)];rfl
   have g:¬(bi a (m:Int)).isSome=true:=by rw[c];simp
   rw[af h1,aa g,aa (by omega),af (by omega)]
  ·rw[lC (by omega)]
   by_cases d:m<k
   ·rw[af d,af (show m<k+1 by omega)];split<;>omega
   ·rw[aa d,aa (show ¬m<k+1 by omega)];split<;>omega
theorem rz(a:List F9):∀k,(fR a k=k ↔ ck a k=2^k-1)
 | 0=>by simp[fR,ck]
 | k+1=>by
  have d:=rz a k;have e:=pB a k;obtain⟨f,g⟩:=kR a k;have c:(2:Int)^(k+1)=2*2^k:=by rw[Int.pow_succ];omega
  unfold fR ck;rw[c]
  by_cases b:(bi a (k:Int)).isSome=true
  ·rw[af b,af b];omega
  ·rw[aa b,aa b];omega
theorem kX:∀k,fR [] k=0
 | 0=>rfl
 | k+1=>by unfold fR;rw[aa (by simp[bi]),kX k]
theorem lj:∀k,ck [] k=0
 | 0=>rfl
 | k+1=>by unfold ck;rw[aa (by simp[bi]),lj k]
def tl(hs:List F9)(i:Nat):S3:=match bi hs i with
 | none=>⟨0,0,0⟩
 | some x=>⟨x.ph,x.pr,x.pa⟩
theorem qD(d:List F9)(s:S3):∀k,(s∈bS d k ↔ ∃i,i<k∧∃x,bi d (i:Nat)=some x∧s=⟨x.ph,x.pr,x.pa⟩)
 | 0=>by
  unfold bS;constructor
  ·intro h;cases h
  ·rintro⟨i,e,-⟩;omega
 | k+1=>by
  have g:=qD d s k;unfold bS
  cases f:bi d (k:Int)with
  | none =>
   simp only;rw[g];constructor
   ·rintro⟨i,e,x,a,b⟩;exact⟨i,by omega,x,a,b⟩
   ·rintro⟨i,e,x,a,b⟩
    refine⟨i,?_,x,a,b⟩;rcases bU i k with c|c
    ·exact c
    ·obtain rfl:i=k:=by omega
     rw[f]at a;cases a
  | some j =>
   simp only[List.mem_append,List.mem_singleton];rw[g];constructor
   ·rintro(⟨i,e,x,a,b⟩|b)
    ·exact⟨i,by omega,x,a,b⟩
    ·exact⟨k,by omega,j,f,b⟩
   ·rintro⟨i,e,x,a,b⟩
    rcases bU i k with c|c
    ·exact .inl ⟨i,c,x,a,b⟩
    ·obtain rfl:i=k:=by omega
     rw[f]at a;obtain rfl:=bF a;exact .inr b
theorem acB{a:List F9}{i:Int}{x:F9}(h:bi a i=some x):x∈a∧x.f=i:=by
 unfold bi at h;exact⟨List.mem_of_find?_eq_some h,by simpa using List.find?_some h⟩
theorem xc{a:List F9}{n:Nat}(i:n<=7)(e:∀x,x∈a->0<=x.f∧x.f<n):cD ((List.range 7).map (tl a))=gc (bS a n):=by
 rw[<-aaZ];refine uz fun j c=>?_
 rw[qD,List.mem_map];constructor
 ·rintro⟨b,f,rfl⟩
  unfold tl at c ⊢
  cases d:bi a (b:Int)with
  | none=>rw[d]at c;exact absurd rfl c
  | some x =>
   obtain⟨g,k⟩:=acB d;have:=(e x g).2;exact⟨b,by omega,x,d,rfl⟩
 ·rintro⟨b,f,x,h,rfl⟩
  refine⟨b,List.mem_range.2 (by omega),?_⟩;unfold tl;rw[h]
theorem afe{a:List F9}{f:F9}{m:Nat}(d:f.f=(m:Int))(h:bi a m=none)(e:m<7):dL ((List.range 7).map (tl a)) m ⟨f.ph,f.pr,f.pa⟩=(List.range 7).map (tl (a++[f])):=by
 refine List.ext_getElem? fun b=>?_
 show(((List.range 7).map (tl a)).set m ⟨f.ph,f.pr,f.pa⟩)[b]?=_;rw[List.getElem?_set]
 by_cases g:m=b
 ·subst g
  rw[af rfl,af (by simpa using e),List.getElem?_map,List.getElem?_range e];simp only[Option.map_some];unfold tl;rw[<-d,nj (by rw[d];exact h)]
 ·rw[aa g,List.getElem?_map,List.getElem?_map]
  rcases bU b 7 with c|c
  ·rw[List.getElem?_range c]
   simp only[Option.map_some];unfold tl;rw[lC (by omega)]
  ·rw[List.getElem?_eq_none (by simpa using c)]
   rfl
theorem iy(id:Nat)(deal kind att ph:Int):∀k,dz id deal kind att ph true k=toL id deal kind att ph k
 | 0=>rfl
 | k+1=>by
  unfold dz toL;rw[aa (by simp),iy id deal kind att ph k]
structure Rel (n:Nat) (att:Int) (P:PL) (L:LSt):Prop where
 pw:PW n P
 stt:P.stt=L.stt
 st4:P.stt<4
 wait:L.wait=if P.stt=0 then(if att=0 then 2 else 4)else if P.stt=1 then 6 else 0
 snd:∀x,x∈L.hs->0<=x.f∧x.f<n
 cnt:P.stt<=1->L.hs.length=fR L.hs n
 ans:P.stt<=1->P.ans=ck L.hs n
 told:P.stt=0->P.told=(List.range 7).map (tl (if att=0 then[]else L.hs))
 prep:P.stt=1->P.prep=L.ph
 seen:P.seen=L.seen
 has:P.has=false->P.seen=0
 pos:0<=P.seen
theorem Rel.waits{n:Nat}{att:Int}{P:PL}{L:LSt}(h:Rel n att P L)(h0:0<=att)(k:Int):fS P att k=true ↔ (L.wait≠0∧k=L.wait):=by
 rw[h.wait];constructor
 ·intro i
  rcases mg i with⟨rfl,b,g⟩|⟨rfl,b,g⟩|⟨rfl,b⟩
  ·rw[af b,af g];omega
  ·rw[af b,aa (by omega)];omega
  ·rw[aa (by omega),af b];omega
 ·rintro⟨d,a⟩
  unfold fS
  by_cases c:P.stt=0
  ·rw[af c]at a
   by_cases e:att=0
   ·rw[af e]at a;subst a;simp[c,e]
   ·rw[aa e]at a;subst a;simp[c];omega
  ·rw[aa c]at d a
   by_cases f:P.stt=1
   ·rw[af f]at a;subst a;simp[f]
   ·rw[aa f]at d;exact absurd rfl d
theorem Rel.takes{n id:Nat}{deal att:Int}{P:PL}{L:LSt}{f:F9}(h:Rel n att P L)(h0:0<=att):ek n id deal att P f=true ↔ (gO n id deal att L f∧(bi L.hs f.f).isSome=false):=by
 constructor
 ·intro m
  obtain⟨⟨d,e,g⟩,o,⟨i,j⟩,c⟩:=iC m;obtain⟨a,k⟩:=(h.waits h0 f.k).1 o;refine⟨⟨a,k,e,g,d,i,j⟩,?_⟩;have l:P.stt<=1:=by
   rw[h.wait]at a;rcases bU 1 P.stt with b|b
   ·rw[aa (by omega),aa (by omega)]at a;exact absurd rfl a
   ·exact b
  rw[h.ans l,lq,bo (show f.f.toNat<n by omega),Bool.true_and,show((f.f.toNat:Nat):Int)=f.f by omega]at c;exact c
 ·rintro⟨⟨a,k,e,g,d,i,j⟩,c⟩
  have l:P.stt<=1:=by
   rw[h.wait]at a;rcases bU 1 P.stt with b|b
   ·rw[aa (by omega),aa (by omega)]at a;exact absurd rfl a
   ·exact b
  rw[afr ⟨d,e,g⟩ ((h.waits h0 f.k).2 ⟨a,k⟩) ⟨i,j⟩,h.ans l,lq,bo (show f.f.toNat<n by omega),Bool.true_and,show((f.f.toNat:Nat):Int)=f.f by omega,c];rfl
theorem uC{P:PL}{p:Int}(h:P.has=false->P.seen=0)(h0:0<=P.seen)(c:0<=p):(dI P p).seen=(if P.seen<p then p else P.seen)∧((dI P p).has=false->(dI P p).seen=0)∧0<=(dI P p).seen:=by
 unfold dI
 by_cases a:P.has=false∨P.seen<p
 ·rw[af a]
  refine⟨?_,fun d=>(by cases d),c⟩;show p=_
  by_cases b:P.seen<p
  ·rw[af b]
  ·rw[aa b]
   rcases a with a|a
   ·have:=h a;omega
   ·exact absurd a b
 ·rw[aa a,aa (fun b=>a (.inr b))]
  exact⟨rfl,h,h0⟩
section
variable {zs:List Int} {id:Nat} {deal att:Int} {P:PL} {L:LSt} {f:F9}
theorem Rel.step(h:Rel zs.length att P L)(h0:0<=att)(G:zs.length<=7)(R:f.k≠2->0<=f.pr):(aL zs id deal att P f).2=(dR zs id deal att L f).2∧Rel zs.length att (aL zs id deal att P f).1 (dR zs id deal att L f).1:=by
 by_cases u:ek zs.length id deal att P f=true
 ·have d:=(h.takes h0).1 u
  obtain⟨⟨w1,w2,-,-,-,H,S⟩,a2⟩:=d;have d:=(h.takes h0).1 u;obtain⟨-,T,-,U⟩:=iC u;obtain⟨n,E⟩:=bD H;have V:n<zs.length:=by omega
  have W:f.f.toNat=n:=by omega
  have I:bi L.hs (n:Int)=none:=by rw[<-E];exact Option.isSome_eq_false_iff.1 a2 |> Option.isNone_iff_eq_none.1
  have a6:=(dZ G).1;have a3:=h.pw.lo;have a7:=h.pw.hi;have X:P.stt<=1:=by
   rcases mg T with⟨-,e,-⟩|⟨-,e,-⟩|⟨-,e⟩<;>omega
  have w:(cP P f).ans=ck (L.hs++[f]) zs.length:=by
   show iY P.ans f.f.toNat=_;rw[W]at U ⊢;rw[aeQ a3 (by omega) (by omega) U,qk E I,af V,h.ans X]
  have x:(L.hs++[f]).length=fR (L.hs++[f]) zs.length:=by
   rw[rh E I,af V,aR,h.cnt X];rfl
  have v:∀g,g∈L.hs++[f]->0<=g.f∧g.f<zs.length:=by
   intro g y;rcases List.mem_append.1 y with a|a
   ·exact h.snd g a
   ·rw[List.mem_singleton.1 a];exact⟨H,S⟩
  have z:=h.pw.note (f:=f) G H S;have J:aL zs id deal att P f=cO zs P f:=by unfold aL;rw[af u]
  rw[J];rcases mg T with⟨l,e,K⟩|⟨l,e,K⟩|⟨l,e⟩
  ·have s:dO L f=L.seen:=by unfold dO;rw[aa (fun g=>g.1 l)]
   have A:=h.told e;rw[af K]at A
   cases m:f.y with
   | false =>
    rw[sY d m l];have i:cO zs P f=ku (cP P f) 3:=by unfold cO;rw[af l];unfold gh;rw[af m]
    rw[i,s];exact⟨rfl,z.dec 3,rfl,by show 2<4;decide,rfl,h.snd,fun a=>absurd a (by show ¬2<=1;decide),fun a=>absurd a (by show ¬2<=1;decide),fun a=>absurd a (by show ¬2=0;decide),fun a=>absurd a (by show ¬2=1;decide),h.seen,h.has,h.pos⟩
   | true =>
    have j:¬f.y=false:=by rw[m];decide
    by_cases F:(L.hs++[f]).length=zs.length
    ·rw[su d j l F]
     have M:(cP P f).ans=2^zs.length-1:=by rw[w];exact(rz _ _).1 (x.symm.trans F)
     have i:cO zs P f=lG (cP P f) 4:=by unfold cO;rw[af l];unfold gh;rw[aa j,af M]
     rw[i,s];refine⟨rfl,z.pre 4,rfl,by show 1<4;decide,rfl,fun g y=>(by cases y),fun _=>?_,fun _=>?_,fun a=>absurd a (by show ¬1=0;decide),fun _=>rfl,h.seen,h.has,h.pos⟩
     ·show 0=fR [] zs.length
      exact(kX _).symm
     ·show(0:Int)=ck [] zs.length
      exact(lj _).symm
    ·rw[qr d j l F]
     have M:¬(cP P f).ans=2^zs.length-1:=by rw[w];exact fun a=>F (x.trans ((rz _ _).2 a))
     have i:cO zs P f=(cP P f,none):=by unfold cO;rw[af l];unfold gh;rw[aa j,aa M]
     rw[i,s];exact⟨rfl,z,h.stt,h.st4,h.wait,v,fun _=>x,fun _=>w,fun _=>by rw[af K];exact A,fun a=>absurd (e.symm.trans a) (by decide),h.seen,h.has,h.pos⟩
  ·have c:¬f.k=2:=by omega
   have N:=R c;have s:dO L f=(if P.seen<f.pr then f.pr else P.seen):=by
    unfold dO;rw[h.seen]
    by_cases a:L.seen<f.pr
    ·rw[af ⟨c,a⟩,af a]
    ·rw[aa (fun g=>a g.2),aa a]
   obtain⟨O,p,q⟩:=uC (P:=cP P f) h.has h.pos N;obtain⟨B,Q,Y,Z⟩:=jn (cP P f) f.pr;have k:=z.see f.pr;have r:(dI (cP P f) f.pr).seen=dO L f:=by rw[s];exact O
   have A:=h.told e;rw[aa (show ¬att=0 by omega)]at A;generalize C:dI (cP P f) f.pr=b at *
   have t:b.ans=ck (L.hs++[f]) zs.length:=Q.trans w;have D:b.stt=0:=B.trans e
   cases m:f.y with
   | false =>
    rw[qe d m c];have i:cO zs P f=({ b with stt:=3 },none):=by unfold cO;rw[aa c,af m,C]
    rw[i];exact⟨rfl,⟨k.len,k.lo,k.hi⟩,rfl,by show 3<4;decide,rfl,h.snd,fun a=>absurd a (by show ¬3<=1;decide),fun a=>absurd a (by show ¬3<=1;decide),fun a=>absurd a (by show ¬3=0;decide),fun a=>absurd a (by show ¬3=1;decide),r,p,q⟩
   | true =>
    have j:¬f.y=false:=by rw[m];decide
    have i:cO zs P f=gj zs b n ⟨f.ph,f.pr,f.pa⟩:=by unfold cO;rw[aa c,aa j,af l,C,W]
    rw[i];have a0:dL b.told n ⟨f.ph,f.pr,f.pa⟩=(List.range 7).map (tl (L.hs++[f])):=by
     rw[Y,show(cP P f).told=P.told from rfl,A];exact afe E I (by omega)
    have a4:cD (dL b.told n ⟨f.ph,f.pr,f.pa⟩)=gc (bS (L.hs++[f]) zs.length):=by rw[a0];exact xc G v
    unfold gj
    by_cases o:bn zs (ck (L.hs++[f]) zs.length)=false
    ·rw[af (show bn zs b.ans=false by rw[t];exact o),nl d j c o]
     refine⟨rfl,k.tell n _,B.trans h.stt,by show b.stt<4;omega,?_,v,fun _=>x,fun _=>t,fun _=>?_,fun a=>absurd (D.symm.trans a) (by decide),r,p,q⟩
     ·show L.wait=if b.stt=0 then _ else _
      rw[D,h.wait,e]
     ·show dL b.told n ⟨f.ph,f.pr,f.pa⟩=_
      rw[aa (show ¬att=0 by omega)];exact a0
    ·rw[aa (show ¬bn zs b.ans=false by rw[t];exact o),a4]
     cases hc:gc (bS (L.hs++[f]) zs.length)with
     | mk cp cf =>
      cases cf with
      | true =>
       rw[af rfl,ss d j c o (by omega) hc];exact⟨rfl,(k.tell n _).dec cp,rfl,by show 2<4;decide,rfl,v,fun a=>absurd a (by show ¬2<=1;decide),fun a=>absurd a (by show ¬2<=1;decide),fun a=>absurd a (by show ¬2=0;decide),fun a=>absurd a (by show ¬2=1;decide),r,p,q⟩
      | false =>
       rw[aa (by simp),tm d j c o (by omega) hc];refine⟨rfl,(k.tell n _).pre cp,rfl,by show 1<4;decide,rfl,fun g y=>(by cases y),fun _=>?_,fun _=>?_,fun a=>absurd a (by show ¬1=0;decide),fun _=>rfl,r,p,q⟩
       ·show 0=fR [] zs.length
        exact(kX _).symm
       ·show(0:Int)=ck [] zs.length
        exact(lj _).symm
  ·have c:¬f.k=2:=by omega
   have k4:¬f.k=4:=by omega
   have N:=R c;have s:dO L f=(if P.seen<f.pr then f.pr else P.seen):=by
    unfold dO;rw[h.seen]
    by_cases a:L.seen<f.pr
    ·rw[af ⟨c,a⟩,af a]
    ·rw[aa (fun g=>a g.2),aa a]
   obtain⟨O,p,q⟩:=uC (P:=cP P f) h.has h.pos N;obtain⟨B,Q,Y,Z⟩:=jn (cP P f) f.pr;have k:=z.see f.pr;have r:(dI (cP P f) f.pr).seen=dO L f:=by rw[s];exact O
   have a5:=h.prep e;generalize C:dI (cP P f) f.pr=b at *
   have t:b.ans=ck (L.hs++[f]) zs.length:=Q.trans w;have D:b.stt=1:=B.trans e;have a1:b.prep=L.ph:=Z.trans a5
   cases m:f.y with
   | false =>
    rw[qe d m c];have i:cO zs P f=({ b with stt:=3 },none):=by unfold cO;rw[aa c,af m,C]
    rw[i];exact⟨rfl,⟨k.len,k.lo,k.hi⟩,rfl,by show 3<4;decide,rfl,h.snd,fun a=>absurd a (by show ¬3<=1;decide),fun a=>absurd a (by show ¬3<=1;decide),fun a=>absurd a (by show ¬3=0;decide),fun a=>absurd a (by show ¬3=1;decide),r,p,q⟩
   | true =>
    have j:¬f.y=false:=by rw[m];decide
    have i:cO zs P f=im zs b:=by unfold cO;rw[aa c,aa j,aa k4,C]
    rw[i];unfold im
    by_cases o:bn zs (ck (L.hs++[f]) zs.length)=false
    ·rw[af (show bn zs b.ans=false by rw[t];exact o),nl d j c o]
     refine⟨rfl,k,B.trans h.stt,by show b.stt<4;omega,?_,v,fun _=>x,fun _=>t,fun a=>absurd (D.symm.trans a) (by decide),fun _=>a1,r,p,q⟩;show L.wait=if b.stt=0 then _ else _
     rw[D,h.wait,e]
    ·rw[aa (show ¬bn zs b.ans=false by rw[t];exact o),sk d j c o l]
     exact⟨by show some (7,eN b.prep)=_;rw[a1],k.dec _,rfl,by show 2<4;decide,rfl,v,fun a=>absurd a (by show ¬2<=1;decide),fun a=>absurd a (by show ¬2<=1;decide),fun a=>absurd a (by show ¬2=0;decide),fun a=>absurd a (by show ¬2=1;decide),r,p,q⟩
 ·have d:¬(gO zs.length id deal att L f∧(bi L.hs f.f).isSome=false):=fun a=>u ((h.takes h0).2 a)
  rw[mr d];have J:aL zs id deal att P f=(P,none):=by unfold aL;rw[aa u]
  rw[J];exact⟨rfl,h⟩
end
theorem ul(B:ByteArray)(k n h1 a b:Nat)(c:Int)(w:World)(d:c=(k:Int))(f:B.size<=1000)(g:18*(k+1)<=B.size)(h:cy k (aN B.data.toList k)=(n,⟨h1,a,b⟩)):Calls prog 152 #[.string B,.int .i64 c] w fun e w'=>e=.returned (.tuple #[.int .i64 (n:Int),.agg #[.int .i64 (h1:Int),.int .i64 (a:Int),.int .i64 (b:Int)]])∧Below w.heap.size w w':=by
 subst d;have:=abF B k w f g;rw[h]at this;exact this
theorem tr(B:ByteArray)(d n h1 m o:Nat)(w:World)(H:B.size<=1000)(hd:36*(d+1)<=B.size)(h:au B.data.toList d=(n,⟨h1,m,o⟩)):Calls prog 97 #[.string B,.int .i64 (d:Int)] w fun e w'=>e=.returned (.tuple #[.int .i64 (n:Int),.agg #[.int .i64 (h1:Int),.int .i64 (m:Int),.int .i64 (o:Int)]])∧Below w.heap.size w w':=by
 obtain⟨⟨p,c,f,g⟩,I⟩:∃A,Hid (cy (2*d) (aN B.data.toList (2*d))=A):=⟨_,rfl⟩;obtain⟨⟨q,i,j,k⟩,J⟩:∃A,Hid (cy (2*d+1) (aN B.data.toList (2*d+1))=A):=⟨_,rfl⟩;have Z:Hid ((if p<q then(q,(⟨i,j,k⟩:St))else(p,⟨c,f,g⟩))=(n,⟨h1,m,o⟩)):=by unfold Hid;rw[<-h];unfold au;rw[I.out,J.out]
 have Z1:Hid ((2*(d:Int))=((2*d:Nat):Int)):=by unfold Hid;omega
 have Z2:Hid ((2*(d:Int)+1)=((2*d+1:Nat):Int)):=by unfold Hid;omega
 clear h;obtain⟨K,C⟩:=nmd (w.alloc (.cells #[iV 0,iV 0,iV 0] 80));have a0:=C.out;have L:Hid (K.heap[w.heap.size]?=some (.cells #[iV 0,iV 0,iV 0] 80 (0,0))):=by rw[<-C.out];exact aB w _
 have M:Hid (bW w K):=by rw[<-C.out];exact aD
 go_enter func97,ntmps97
 go_wp2_with fail
 refine(ul B (2*d) p c f g _ _ Z1.out H (by omega) I).mono ?_;rintro e v ⟨rfl,D⟩;have N:=hid ((D.block _ (ah L.out)).trans L.out);have O:=hid (M.trans (D.mono M.size));clear D;obtain⟨E,x⟩:=nmd (v.alloc (.cells #[iV (c:Int),iV (f:Int),iV (g:Int)] 80));obtain⟨s,P⟩:=nmd (v.heap.size);have a1:=x.out;have a2:=P.out;have Q:Hid (E.heap[s]?=some (.cells #[iV (c:Int),iV (f:Int),iV (g:Int)] 80 (0,0))):=by rw[<-x.out,<-P.out];exact aB v _
 have R:Hid (E.heap[w.heap.size]?=some (.cells #[iV 0,iV 0,iV 0] 80 (0,0))):=by rw[<-x.out];exact(Below.heap_alloc v _ _ (ah N.out)).trans N.out
 have S:Hid (bW w E):=by rw[<-x.out];exact O.alloc O.size _
 go_wp2_with fail
 refine(ul B (2*d+1) q i j k _ _ Z2.out H (by omega) J).mono ?_;rintro e t ⟨rfl,y⟩;have T:=hid ((y.block _ (ah R.out)).trans R.out);have U:=hid ((y.block _ (ah Q.out)).trans Q.out);have V:=hid (S.trans (y.mono S.size));clear y;obtain⟨a,u⟩:=nmd (t.alloc (.cells #[iV (i:Int),iV (j:Int),iV (k:Int)] 80));obtain⟨z,W⟩:=nmd (t.heap.size);have a3:=u.out;have a4:=W.out;have F:Hid (a.heap[z]?=some (.cells #[iV (i:Int),iV (j:Int),iV (k:Int)] 80 (0,0))):=by rw[<-u.out,<-W.out];exact aB t _
 have G:Hid (a.heap[s]?=some (.cells #[iV (c:Int),iV (f:Int),iV (g:Int)] 80 (0,0))):=by rw[<-u.out];exact(Below.heap_alloc t _ _ (ah U.out)).trans U.out
 have b:Hid (a.heap[w.heap.size]?=some (.cells #[iV 0,iV 0,iV 0] 80 (0,0))):=by rw[<-u.out];exact(Below.heap_alloc t _ _ (ah T.out)).trans T.out
 have X:Hid (bW w a):=by rw[<-u.out];exact V.alloc V.size _
 have v0:a.cell? ⟨w.heap.size,0,none⟩=some (iV 0):=by rw[ai b.out];rfl
 have v1:a.cell? ⟨w.heap.size,1,none⟩=some (iV 0):=by rw[ai b.out];rfl
 have v2:a.cell? ⟨w.heap.size,2,none⟩=some (iV 0):=by rw[ai b.out];rfl
 have f0:=aK a w.heap.size 0 _ _ b.out;have f1:=aK a w.heap.size 1 _ _ b.out;have f2:=aK a w.heap.size 2 _ _ b.out;have c0:a.cell? ⟨s,0,none⟩=some (iV (c:Int)):=by rw[ai G.out];rfl
 have c1:a.cell? ⟨s,1,none⟩=some (iV (f:Int)):=by rw[ai G.out];rfl
 have c2:a.cell? ⟨s,2,none⟩=some (iV (g:Int)):=by rw[ai G.out];rfl
 have e0:a.cell? ⟨z,0,none⟩=some (iV (i:Int)):=by rw[ai F.out];rfl
 have e1:a.cell? ⟨z,1,none⟩=some (iV (j:Int)):=by rw[ai F.out];rfl
 have e2:a.cell? ⟨z,2,none⟩=some (iV (k:Int)):=by rw[ai F.out];rfl
 have l:=Z.out
 by_cases Y:p<q
 ·rw[af Y]at l
  obtain⟨rfl,rfl,rfl,rfl⟩:q=n∧i=h1∧j=m∧k=o:=by simpa using l
  clear l
  go_wp2_with fail
  go_region
  all_goals go_wp2_with fail
  refine bh (iO rfl _ _ w.heap.size 80 _ (0,0) _ rfl (tH b.out _ _ _) underlying80 rfl oR) rfl ?_;exact⟨rfl,(((X.setCell aj _).setCell aj _).setCell aj _).drew⟩
 ·rw[aa Y]at l
  obtain⟨rfl,rfl,rfl,rfl⟩:p=n∧c=h1∧f=m∧g=o:=by simpa using l
  clear l
  go_wp2_with fail
  go_region
  all_goals go_wp2_with fail
  refine bh (iO rfl _ _ w.heap.size 80 _ (0,0) _ rfl (tH b.out _ _ _) underlying80 rfl oR) rfl ?_;exact⟨rfl,(((X.setCell aj _).setCell aj _).setCell aj _).drew⟩
def jT(E:Nat->Nat×St)(k:Nat):List Value:=(List.range k).map fun d=>.int .i64 ((E d).1:Int)
def hI(E:Nat->Nat×St)(k:Nat):List Value:=(List.range k).flatMap fun d=>[.int .i64 ((E d).2.ph:Int),.int .i64 ((E d).2.pr:Int),.int .i64 ((E d).2.at_:Int)]
theorem ww(E:Nat->Nat×St)(k:Nat):jT E (k+1)=jT E k++[.int .i64 ((E k).1:Int)]:=by simp[jT,List.range_succ]
theorem tE(E:Nat->Nat×St)(k:Nat):hI E (k+1)=hI E k++[.int .i64 ((E k).2.ph:Int),.int .i64 ((E k).2.pr:Int),.int .i64 ((E k).2.at_:Int)]:=by simp[hI,List.range_succ]
structure OpS (w0 w:World) (m r:Nat) (E:Nat->Nat×St) (vN vS:Value) (k1 k2:Nat):Prop where
 row:w.heap[m]?=some (.cells #[.pointer (some ⟨r,0,none⟩),vN,vS,.bool false] 117 (0,0))
 nN:w.ownsRow (m+1) 3 1 vN k1 (jT E k1)
 nS:w.ownsRow (m+1) 80 3 vS k2 (hI E k2)
 ne:∀b,vN.ownBlock=some b->vS.ownBlock≠some b
 bel:Below m w0 w
section
variable {w0 w W w':World} {m r:Nat} {E:Nat→Nat×St} {vN vS:Value} {k1 k2:Nat}
theorem OpS.mlt(h:OpS w0 w m r E vN vS k1 k2):m<w.heap.size:=ah h.row
theorem OpS.later(h:OpS w0 w m r E vN vS k1 k2)(a:Below w.heap.size w w'):OpS w0 w' m r E vN vS k1 k2:=
 ⟨(a.block _ h.mlt).trans h.row,dC h.nN a aj,dC h.nS a aj,h.ne,h.bel.trans (a.mono (Nat.le_of_lt h.mlt))⟩
theorem ja{e:TypeId}{size n base:Nat}{v:Value}{xs:List Value}(h:w.ownsRow base e size v n xs)(g:m<base)(i:Nat)(x:Value):(w.setCell ⟨m,i,none⟩ x).ownsRow base e size v n xs:=by
 refine⟨h.1,?_⟩;rcases h.2 with b|⟨a,cap,c,rfl,d,f,rest⟩
 ·exact .inl b
 ·exact .inr ⟨a,cap,c,rfl,d,(Below.heap_setCell _ _ _ _ (by show a≠m;omega)).trans f,rest⟩
theorem iH{row:Option Nat}(a:W.grownBy w' row){b:Nat}{o:Obj}(h:W.heap[b]?=some o)(c:some b≠row):w'.heap[b]?=some o:=(a.block b (ah h) c).trans h
theorem OpS.pushN{g n cap H:Nat}(h:OpS w0 w m r E vN vS k1 k2)(f:Below w.heap.size w W)(d:W.grownBy w' vN.ownBlock)(i:w'.ownsRow (m+1) 3 1 (.slice (some ⟨g,0,none⟩) n cap) (k1+1) (jT E (k1+1)))(j:vN.ownBlock=some g∨g=H)(t:w.heap.size<=H):OpS w0 (w'.setCell ⟨m,1,none⟩ (.slice (some ⟨g,0,none⟩) n cap)) m r E (.slice (some ⟨g,0,none⟩) n cap) vS (k1+1) k2:=by
 have b:=h.later f;have k:some m≠vN.ownBlock:=fun a=>by have:=(h.nN.lt m a.symm).1;omega
 have l:=iH d b.row k;refine⟨aE w' m 1 _ _ _ l,ja i (by omega) _ _,ja (b.nS.kept d ?_) (by omega) _ _,?_,?_⟩
 ·cases c:vS.ownBlock with
  | none=>exact .inl rfl
  | some e=>exact .inr fun a=>(h.ne e a.symm) c
 ·intro e o c
  have p:e=g:=by simpa [Value.ownBlock]using o.symm
  subst p;rcases j with a|a
  ·exact h.ne _ a c
  ·have:=(h.nS.lt _ c).2;omega
 ·refine(Below.grown b.bel d (Nat.le_of_lt b.mlt) ?_).setCell aj _
  intro q s;have:=(h.nN.lt q s).1;omega
theorem OpS.pushS{g n cap H:Nat}(h:OpS w0 w m r E vN vS k1 k2)(i:Below w.heap.size w W)(c:W.grownBy w' vS.ownBlock)(j:w'.ownsRow (m+1) 80 3 (.slice (some ⟨g,0,none⟩) n cap) (k2+1) (hI E (k2+1)))(k:vS.ownBlock=some g∨g=H)(t:w.heap.size<=H):OpS w0 (w'.setCell ⟨m,2,none⟩ (.slice (some ⟨g,0,none⟩) n cap)) m r E vN (.slice (some ⟨g,0,none⟩) n cap) k1 (k2+1):=by
 have b:=h.later i;have l:some m≠vS.ownBlock:=fun a=>by have:=(h.nS.lt m a.symm).1;omega
 have o:=iH c b.row l;refine⟨aE w' m 2 _ _ _ o,ja (b.nN.kept c ?_) (by omega) _ _,ja j (by omega) _ _,?_,?_⟩
 ·cases d:vN.ownBlock with
  | none=>exact .inl rfl
  | some e=>exact .inr fun a=>h.ne e d a.symm
 ·intro e f d
  have p:e=g:=by simpa [Value.ownBlock]using d.symm
  subst p;rcases k with a|a
  ·exact h.ne _ f a
  ·have:=(h.nN.lt _ f).2;omega
 ·refine(Below.grown b.bel c (Nat.le_of_lt b.mlt) ?_).setCell aj _
  intro q s;have:=(h.nS.lt q s).1;omega
end
structure RJ (w:World) (m gn gs r:Nat) (E:Nat->Nat×St) (dead:Bool):Prop where
 row:∃cn cs,w.heap[m]?=some (.cells #[.pointer (some ⟨r,0,none⟩),.slice (some ⟨gn,0,none⟩) 6 cn,.slice (some ⟨gs,0,none⟩) 6 cs,.bool dead] 117 (0,0))
 nums:∃N,w.heap[gn]?=some (.cells N 3 (0,0))∧∀d,d<6->N[d]?=some (.int .i64 ((E d).1:Int))
 sts:∃S,w.heap[gs]?=some (.cells S 80 (0,0))∧∀d,d<6->S[d*3]?=some (.int .i64 ((E d).2.ph:Int))∧S[d*3+1]?=some (.int .i64 ((E d).2.pr:Int))∧S[d*3+2]?=some (.int .i64 ((E d).2.at_:Int))
 mn:m≠gn
 ms:m≠gs
 ns:gn≠gs
theorem OpS.done{w0 w:World}{m r:Nat}{E:Nat->Nat×St}{l n:Value}(h:OpS w0 w m r E l n 6 6):∃gn gs,RJ w m gn gs r E false∧m<gn∧m<gs:=by
 obtain⟨row,d,e,o,y⟩:=h;have p:=d;have b:=e;rcases d.2 with⟨_,q⟩|⟨gn,s,t,rfl,z,f,-,-,-,A⟩
 ·omega
 rcases e.2 with⟨_,q⟩|⟨gs,u,v,rfl,B,g,-,-,-,C⟩
 ·omega
 refine⟨gn,gs,⟨⟨s,u,row⟩,⟨t,f,?_⟩,⟨v,g,?_⟩,by omega,by omega,?_⟩,by omega,by omega⟩
 ·intro a c
  have:=p.cellAt a (by omega);rw[ai f]at this;rw[this];rcases six c with rfl|rfl|rfl|rfl|rfl|rfl<;>rfl
 ·intro a c
  have i:=b.cellAt (a*3) (by omega);have j:=b.cellAt (a*3+1) (by omega);have k:=b.cellAt (a*3+2) (by omega);rw[ai g]at i j k;rw[i,j,k];rcases six c with rfl|rfl|rfl|rfl|rfl|rfl<;>exact⟨rfl,rfl,rfl⟩
 ·intro x
  subst x;exact o gn rfl rfl
theorem Tryz.infoS:(prog.info? 80).map (fun i=>(i.zero,i.size,i.bytes))=some (some (.agg #[.int .i64 0,.int .i64 0,.int .i64 0]),3,24):=by kernel_rfl
theorem sR(r:Nat)(B:ByteArray)(a4 a5:Bool)(l:Int)(w:World)(h:RP w r B a4 l a5)(hB:B.size<=1000)(h6:216<=B.size):Calls prog 80 #[.pointer (some ⟨r,0,none⟩)] w fun e w'=>∃m gn gs,e=.returned (.pointer (some ⟨m,0,none⟩))∧RJ w' m gn gs r (au B.data.toList) false∧Below w.heap.size w w'∧w.heap.size<=m∧w.heap.size<=gn∧w.heap.size<=gs:=by
 obtain⟨i0,hi,a6,a7,a8⟩:=info_parts Tryz.infoI;obtain⟨j0,z,a9,b0,b1⟩:=info_parts Tryz.infoS;obtain⟨i,R⟩:=nmd (au B.data.toList);rw[R.out];have b2:=hid h;have c6:r<w.heap.size:=ah h;clear h;obtain⟨H,S⟩:=nmd (w.alloc (.cells #[pV r,.slice none 0 0,.slice none 0 0,.bool false] 117));have hW:=S.out;have T:Hid (OpS w H w.heap.size r i (.slice none 0 0) (.slice none 0 0) 0 0):=by
  rw[<-S.out];exact⟨aB w _,World.ownsRow_nil _ _ _ _,World.ownsRow_nil _ _ _ _,fun c7 hb=>by simp[Value.ownBlock]at hb,aD⟩
 obtain⟨m,I⟩:=nmd (w.heap.size);have hm:=I.out;rw[hm]at T
 go_enter func80,ntmps80
 go_wp2_with fail
 go_loopw [4] (fun J wr=>∃a:Nat,∃q k:Value,a<=6∧J=iV (a:Int)∧OpS w wr m r i q k a a) (fun J _=>6-(intOf J).toNat)
 case atStart=>exact⟨0,_,_,by omega,rfl,T⟩
 case round =>
  obtain⟨a,q,k,hk,rfl,U⟩:=hrel;have j:=hid U;clear U
  by_cases c8:a<6
  ·have cr:wr.cell? ⟨r,0,none⟩=some (.string B):=(b2.kept (S:=fun _=>False) (Kept.of_below (by rw[I.out];exact j.bel)) (fun K=>K)).c0
   obtain⟨⟨n,b,f,c⟩,L⟩:∃K,Hid (i a=K):=⟨_,rfl⟩;have b3:Hid (au B.data.toList a=(n,⟨b,f,c⟩)):=by rw[R.out];exact L
   go_wp2_with fail
   refine(tr B a n b f c wr hB (by omega) b3).mono ?_;rintro e o ⟨rfl,s⟩;obtain⟨V,u⟩:=nmd (o.alloc (.cells #[iV (b:Int),iV (f:Int),iV (c:Int)] 80));obtain⟨d,p⟩:=nmd (o.heap.size);have c9:=p.out;have A:Hid (bW wr V):=by rw[<-u.out];exact s.alloc s.size _
   have W:Hid (V.heap[d]?=some (.cells #[iV (b:Int),iV (f:Int),iV (c:Int)] 80 (0,0))):=by rw[<-u.out,<-p.out];exact aB o _
   have X:=hid (j.later A);have N:=hid (j.later s);have d0:m<d:=by have b:=j.mlt;have f:=s.size;have c:=p.out;omega
   have cN:o.cell? ⟨m,1,none⟩=some q:=by rw[ai N.out.row];rfl
   have b4:Hid (jT i (a+1)=jT i a++[iV (n:Int)]):=by unfold Hid;rw[ww,L.out]
   have b5:Hid (hI i (a+1)=hI i a++[iV (b:Int),iV (f:Int),iV (c:Int)]):=by unfold Hid;rw[tE,L.out]
   have O:Hid (wr.heap.size<=o.heap.size):=s.size;have b6:Hid (((o.alloc (.cells #[iV (b:Int),iV (f:Int),iV (c:Int)] 80)).alloc (.cells #[iV (n:Int)] 3)).heap[m]?=some (.cells #[pV r,q,k,.bool false] 117 (0,0))):=by
    rw[u.out];exact(Below.heap_alloc _ _ _ X.mlt).trans X.row
   clear s cr
   go_wp2_with (at_builtin;refine wpList_append_lies _ rfl (.tmp 27) (.tmp 29) 34 rfl (m+1) 3 i0 (iV 0) 1 8 underlying34 hi a6 a7 a8 rfl (by decide) q a (jT i a) rfl (by exact World.ownsRow.alloc (World.ownsRow.alloc N.nN _) _) ⟨d+1,0,none⟩ 1 1 [iV (n:Int)] rfl rfl ?d3 ?d4 (by decide) ?d5 ?d6 ?d7 (d+2) ?d8 ?_)
   case d3 =>
    have e:((o.alloc (.cells #[iV (b:Int),iV (f:Int),iV (c:Int)] 80)).heap.size)=d+1:=by rw[<-p.out];simp
    rw[<-e];exact fM _ _ _
   case d4=>intro b7 v;simp at v;subst v;rfl
   case d5=>unfold maxLen;omega
   case d6=>omega
   case d7=>simp;omega
   case d8=>simp;omega
   intro g3 c3 C Y D Z d1;have b8:Hid (bW wr ((o.alloc (.cells #[iV (b:Int),iV (f:Int),iV (c:Int)] 80)).alloc (.cells #[iV (n:Int)] 3))):=by
    rw[u.out];exact A.alloc A.size _
   have t:=hid (j.pushN b8 D (by rw[b4.out];exact Y) Z (by have b:=O.out;have c:=p.out;omega));have b9:Hid (C.heap[d]?=some (.cells #[iV (b:Int),iV (f:Int),iV (c:Int)] 80 (0,0))):=by
    refine iH D (b:=d) ?_ ?_
    ·rw[u.out];exact(Below.heap_alloc _ _ _ (ah W)).trans W
    ·intro e
     have b:=(j.nN.lt d e.symm).2;have f:=N.bel.size;have c:=A.size;have h4:=p.out;have h5:=O.out;omega
   have a0:=iH D (b:=m) (b6) (fun e=>by have:=(j.nN.lt m e.symm).1;omega);have x1:C.cell? ⟨m,1,none⟩=some q:=by rw[ai a0];rfl
   have y1:=aK C m 1 _ _ a0;clear Y D Z;obtain⟨g,P⟩:=nmd (C.setCell ⟨m,1,none⟩ (.slice (some ⟨g3,0,none⟩) (a+1) c3));rw[P.out]at t;have x:Hid (g.heap[d]?=some (.cells #[iV (b:Int),iV (f:Int),iV (c:Int)] 80 (0,0))):=by
    rw[<-P.out];exact(Below.heap_setCell _ _ _ _ (by show d≠m;omega)).trans b9
   go_wp2_with fail
   rw[P.out];clear x1 y1 cN;have x2:g.cell? ⟨m,2,none⟩=some k:=by rw[ai t.out.row];rfl
   have s0:g.cell? ⟨d,0,none⟩=some (iV (b:Int)):=by rw[ai x.out];rfl
   have s1:g.cell? ⟨d,1,none⟩=some (iV (f:Int)):=by rw[ai x.out];rfl
   have s2:g.cell? ⟨d,2,none⟩=some (iV (c:Int)):=by rw[ai x.out];rfl
   have a1:=t.mlt;have c0:Hid (some m≠k.ownBlock):=fun e=>by have:=(j.nS.lt m e.symm).1;omega
   have c1:Hid (some d≠k.ownBlock):=fun e=>by have b:=(j.nS.lt d e.symm).2;have f:=O.out;have c:=p.out;omega
   have c2:Hid (bW g (g.alloc (.cells #[iV (b:Int),iV (f:Int),iV (c:Int)] 80)).drew):=(aD).drew
   go_region_law ((refine step_append_lies _ (by rfl) _ _ _ (by rfl) (m+1) 80 j0 (.agg #[iV 0,iV 0,iV 0]) 3 24 underlying115 z a9 b0 b1 (by rfl) (by decide) k a (hI i a) (by rfl) (by exact World.ownsRow.alloc t.nS _) ⟨g.heap.size,0,none⟩ 1 1 [iV (b:Int),iV (f:Int),iV (c:Int)] (by rfl) (by rfl) (by exact fM g _ _) (by intro b7 v;simp at v;rcases v with rfl|rfl|rfl<;>rfl) (by decide) (by unfold maxLen;omega) (by omega) (by exact bc a1 (by simp)) (g.heap.size+1) (by simp) ?_;intro g5 d2 y a2 E a3 c4;have F:=hid (t.pushS c2 E (by rw[b5.out];exact a2) a3 (by omega));have Q:=iH E (b:=m) (show(g.alloc (.cells #[iV (b:Int),iV (f:Int),iV (c:Int)] 80)).drew.heap[m]?=_ from(Below.heap_alloc g _ _ a1).trans t.row) c0;have G:=iH E (b:=d) (show(g.alloc (.cells #[iV (b:Int),iV (f:Int),iV (c:Int)] 80)).drew.heap[d]?=_ from(Below.heap_alloc g _ _ (ah x)).trans x) c1;have d3:y.cell? ⟨m,2,none⟩=some k:=(by rw[ai Q];rfl);have d4:=aK y m 2 _ _ Q;have d5:y.cell? ⟨d,0,none⟩=some (iV (b:Int)):=(by rw[ai G];rfl);have d6:y.cell? ⟨d,1,none⟩=some (iV (f:Int)):=(by rw[ai G];rfl);have d7:y.cell? ⟨d,2,none⟩=some (iV (c:Int)):=(by rw[ai G];rfl);clear Q G a2 E a3 c4))
   all_goals go_wp2_with fail
   all_goals go_roundw
   case rel=>exact⟨a+1,_,_,by omega,by go_num,by first|exact F|exact F.later aF.drew⟩
   case measure=>simp[intOf];omega
   all_goals first|exact⟨a+1,_,_,by omega,by go_num,by first|exact F|exact F.later aF.drew⟩|(simp[intOf];omega)
  ·obtain rfl:a=6:=by omega
   obtain⟨gn,gs,z,d8,d9⟩:=j.done;have HJ:=hid z;have c5:=hid j.bel;clear z
   go_wp2_with fail
   go_ret
   exact⟨m,gn,gs,rfl,HJ,by have:=c5.out;rw[<-I.out]at this;exact this,by omega,by omega,by omega⟩
end Go.Proofs.YtaehdgemkafinaaGreatDoor
