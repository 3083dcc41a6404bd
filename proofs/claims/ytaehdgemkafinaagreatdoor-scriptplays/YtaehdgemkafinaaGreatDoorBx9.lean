/-
  On the way to SPlaysProof: Q0 Q1 Q2 Q3 VD QI.
-/
import Derived.Test.YtaehdgemkafinaaGreatDoorBx3
import Derived.Test.YtaehdgemkafinaaGreatDoorBx5
import Derived.Test.YtaehdgemkafinaaGreatDoorBx4
import Derived.Deep.RegionLaw
import Derived.Deep.MidRow
import Derived.Laws.IdiomCopy
import Derived.Lib.SliceRun
set_option maxHeartbeats 8000000
set_option maxRecDepth 100000
namespace Go.Proofs.YtaehdgemkafinaaGreatDoor
open Go.RowKit
open Go.Proofs.Tryz
structure PL where
 stt:Nat
 ans:Int
 told:List S3
 prep:Int
 seen:Int
 has:Bool
def stP(k:Nat):ByteArray:=if k=0 then⟨#[97,115,107,105,110,103]⟩else if k=1 then⟨#[112,114,101,112,97,114,105,110,103]⟩else if k=2 then⟨#[100,111,110,101]⟩else⟨#[114,101,102,117,115,101,100]⟩
theorem adl:stP 0=⟨#[97,115,107,105,110,103]⟩:=rfl
theorem aaa:stP 1=⟨#[112,114,101,112,97,114,105,110,103]⟩:=rfl
theorem aaL:stP 2=⟨#[100,111,110,101]⟩:=rfl
theorem aac:stP 3=⟨#[114,101,102,117,115,101,100]⟩:=rfl
def fS(P:PL)(att k:Int):Bool:=(k==2&&P.stt==0&&decide (att=0))||(k==4&&P.stt==0&&decide (0<att))||(k==6&&P.stt==1)
def ek(n id:Nat)(deal att:Int)(P:PL)(f:F9):Bool:=decide (f.t=id∧f.d=deal∧f.a=att)&&fS P att f.k&&decide (0<=f.f∧f.f<n) && !bit P.ans f.f.toNat
def iY(a:Int)(i:Nat):Int:=bits .or .i64 a (2^i)
def dL(L:List S3)(i:Nat)(s:S3):List S3:=L.set i s
def cP(P:PL)(f:F9):PL:={ P with ans:=iY P.ans f.f.toNat }
def dI(P:PL)(p:Int):PL:=if P.has=false∨P.seen<p then { P with seen:=p,has:=true }else P
def ku(P:PL)(p:Int):PL×Option (Int×Int):=({ P with stt:=2 },some (7,p))
def lG(P:PL)(p:Int):PL×Option (Int×Int):=({ P with stt:=1,prep:=p,ans:=0 },some (5,p))
def gh(n:Nat)(P:PL)(y:Bool):PL×Option (Int×Int):=if y=false then ku P 3 else if P.ans=2^n-1 then lG P 4 else(P,none)
def gj(zs:List Int)(P:PL)(i:Nat)(s:S3):PL×Option (Int×Int):=
 if bn zs P.ans=false then({ P with told:=dL P.told i s },none)
 else if(cD (dL P.told i s)).2=true then ku { P with told:=dL P.told i s } (cD (dL P.told i s)).1 else lG { P with told:=dL P.told i s } (cD (dL P.told i s)).1
def im(zs:List Int)(P:PL):PL×Option (Int×Int):=if bn zs P.ans=false then(P,none)else ku P (eN P.prep)
def cO(zs:List Int)(P:PL)(f:F9):PL×Option (Int×Int):=
 if f.k=2 then gh zs.length (cP P f) f.y
 else if f.y=false then({ dI (cP P f) f.pr with stt:=3 },none)
 else if f.k=4 then gj zs (dI (cP P f) f.pr) f.f.toNat ⟨f.ph,f.pr,f.pa⟩
 else im zs (dI (cP P f) f.pr)
def aL(zs:List Int)(id:Nat)(deal att:Int)(P:PL)(f:F9):PL×Option (Int×Int):=
 if ek zs.length id deal att P f=true then cO zs P f else(P,none)
def toL(id:Nat)(deal kind att ph:Int):Nat->List F9
 | 0=>[]
 | k+1=>toL id deal kind att ph k++[⟨id,k,deal,kind,att,false,ph,0,0⟩]
theorem eJ(id:Nat)(deal kind att ph:Int):∀k,(toL id deal kind att ph k).length=k
 | 0=>rfl
 | k+1=>by rw[toL,aR,eJ];rfl
def dm(id:Nat)(deal att:Int)(n:Nat):Option (Int×Int)->List F9
 | none=>[]
 | some x=>toL id deal x.1 att x.2 n
theorem me(id:Nat)(deal att:Int)(n:Nat)(x:Option (Int×Int)):(dm id deal att n x).length<=n:=by
 cases x with
 | none=>exact Nat.zero_le _
 | some a=>exact Nat.le_of_eq (eJ _ _ _ _ _ _)
structure PW (n:Nat) (P:PL):Prop where
 len:P.told.length=7
 lo:0<=P.ans
 hi:P.ans<2^n
theorem sd{n:Nat}{a:Int}{i:Nat}(b:n<=7)(h0:0<=a)(h1:a<2^n)(c:i<n):0<=iY a i∧iY a i<2^n:=by
 have d:(2:Int)^i<2^n:=Int.pow_lt_pow_of_lt (by decide) c;have e:(0:Int)<2^i:=Int.pow_pos (by decide);exact ai6 b h0 h1 (by omega) d
theorem jn(P:PL)(p:Int):(dI P p).stt=P.stt∧(dI P p).ans=P.ans∧(dI P p).told=P.told∧(dI P p).prep=P.prep:=by
 unfold dI;split<;>exact⟨rfl,rfl,rfl,rfl⟩
theorem PW.note{n:Nat}{P:PL}{f:F9}(h:PW n P)(a:n<=7)(h0:0<=f.f)(h1:f.f<n):PW n (cP P f):=
 ⟨h.len,(sd a h.lo h.hi (by omega)).1,(sd a h.lo h.hi (by omega)).2⟩
theorem PW.see{n:Nat}{P:PL}(h:PW n P)(p:Int):PW n (dI P p):=by
 obtain⟨-,a,b,-⟩:=jn P p;exact⟨by rw[b];exact h.len,by rw[a];exact h.lo,by rw[a];exact h.hi⟩
theorem PW.dec{n:Nat}{P:PL}(h:PW n P)(p:Int):PW n (ku P p).1:=⟨h.len,h.lo,h.hi⟩
theorem PW.pre{n:Nat}{P:PL}(h:PW n P)(p:Int):PW n (lG P p).1:=⟨h.len,Int.le_refl _,Int.pow_pos (by decide)⟩
theorem PW.tell{n:Nat}{P:PL}(h:PW n P)(i:Nat)(s:S3):PW n { P with told:=dL P.told i s }:=⟨by show(P.told.set i s).length=7;rw[List.length_set];exact h.len,h.lo,h.hi⟩
theorem PW.taken{zs:List Int}{P:PL}{f:F9}(h:PW zs.length P)(c:zs.length<=7)(h0:0<=f.f)(h1:f.f<zs.length):PW zs.length (cO zs P f).1:=by
 have b:=h.note (f:=f) c h0 h1;have a:=b.see f.pr;unfold cO
 split
 ·unfold gh;split
  ·exact b.dec _
  ·split
   ·exact b.pre _
   ·exact b
 ·split
  ·exact⟨a.len,a.lo,a.hi⟩
  ·split
   ·unfold gj
    split
    ·exact a.tell _ _
    ·split
     ·exact(a.tell _ _).dec _
     ·exact(a.tell _ _).pre _
   ·unfold im
    split
    ·exact a
    ·exact a.dec _
theorem iC{n id:Nat}{deal att:Int}{P:PL}{f:F9}(h:ek n id deal att P f=true):(f.t=id∧f.d=deal∧f.a=att)∧fS P att f.k=true∧(0<=f.f∧f.f<n)∧bit P.ans f.f.toNat=false:=by
 unfold ek at h;simp only[Bool.and_eq_true,decide_eq_true_eq,Bool.not_eq_true']at h;exact⟨h.1.1.1,h.1.1.2,h.1.2,h.2⟩
theorem PW.hear{zs:List Int}{id:Nat}{deal att:Int}{P:PL}{f:F9}(h:PW zs.length P)(a:zs.length<=7):PW zs.length (aL zs id deal att P f).1:=by
 unfold aL
 split
 ·rename_i b
  obtain⟨-,-,⟨c,d⟩,-⟩:=iC b;exact h.taken a c d
 ·exact h
def ajc(L:List S3):List Value:=L.flatMap fun s=>[.int .i64 s.p,.int .i64 s.r,.int .i64 s.a]
def pC(id:Nat)(deal att:Int)(vw:Value)(P:PL):List Value:=
 .int .i64 id::.int .i64 deal::.int .i64 att::vw::.string (stP P.stt)::.int .i64 P.ans::(ajc P.told++[.int .i64 P.prep,.int .i64 P.seen,.bool P.has])
theorem oE{L:List S3}(h:L.length=7):∃a b c d e f g,L=[a,b,c,d,e,f,g]:=by
 match L,h with
 | [a,b,c,d,e,f,g],_=>exact⟨a,b,c,d,e,f,g,rfl⟩
structure LD (w:World) (lb b cap id:Nat) (deal att:Int) (zs:List Int) (P:PL):Prop where
 row:w.heap[lb]?=some (.cells (pC id deal att (.slice (some ⟨b,0,none⟩) zs.length cap) P).toArray 220 (0,0))
 ws:∀i,i<zs.length->w.cell? ⟨b,0+i,none⟩=some (.int .i64 (zs.getD i 0))
 bl:b<lb
 pw:PW zs.length P
 glo:∀j,gW j<lb
section
variable {w w':World} {lb b cap id:Nat} {deal att:Int} {zs:List Int} {P:PL}
theorem LD.kept{S:Nat->Prop}(h:LD w lb b cap id deal att zs P)(k:Kept S w w')(h1:¬S lb)(c:¬S b):LD w' lb b cap id deal att zs P:=
 ⟨k.row h.row h1,fun a d=>by
  have:=h.ws a d;have e:b<w.heap.size:=bY this;unfold World.cell? at this ⊢;rw[show w'.heap[(⟨b,0+a,none⟩:Addr).block]?=w.heap[(⟨b,0+a,none⟩:Addr).block]? from k.block b e c];exact this,h.bl,h.pw,h.glo⟩
theorem LD.later(h:LD w lb b cap id deal att zs P)(c:Below w.heap.size w w'):LD w' lb b cap id deal att zs P:=
 h.kept (S:=fun _=>False) (Kept.of_below c) (fun a=>a) (fun a=>a)
theorem LD.sl(h:LD w lb b cap id deal att zs P)(c:zs.length<=7):IsSl w (.slice (some ⟨b,0,none⟩) zs.length cap) zs:=
 ⟨_,cap,rfl,by unfold maxLen;omega,(fun a=>by cases a),fun _=>⟨b,0,rfl,h.ws⟩⟩
theorem LD.cells(h:LD w lb b cap id deal att zs P):w.cell? ⟨lb,0,none⟩=some (.int .i64 (id:Int))∧w.cell? ⟨lb,1,none⟩=some (.int .i64 deal)∧w.cell? ⟨lb,2,none⟩=some (.int .i64 att)∧w.cell? ⟨lb,3,none⟩=some (.slice (some ⟨b,0,none⟩) zs.length cap)∧w.cell? ⟨lb,4,none⟩=some (.string (stP P.stt))∧w.cell? ⟨lb,5,none⟩=some (.int .i64 P.ans)∧w.cell? ⟨lb,27,none⟩=some (.int .i64 P.prep)∧w.cell? ⟨lb,28,none⟩=some (.int .i64 P.seen)∧w.cell? ⟨lb,29,none⟩=some (.bool P.has):=by
 have a:=h.row;obtain⟨d,e,f,g,i,j,k,c⟩:=oE h.pw.len;unfold pC at a;rw[c]at a;refine⟨?_,?_,?_,?_,?_,?_,?_,?_,?_⟩<;>rw[ai a]<;>rfl
theorem LD.fz(h:LD w lb b cap id deal att zs P)(i:Nat):w.frozen? ⟨lb,i,none⟩=false:=by
 first
  | exact aK h.row
  | (unfold World.frozen?;simp[h.row])
theorem LD.set{Q:PL}{i:Nat}{v:Value}(h:LD w lb b cap id deal att zs P)(c:PW zs.length Q)(e:(pC id deal att (.slice (some ⟨b,0,none⟩) zs.length cap) P).set i v=pC id deal att (.slice (some ⟨b,0,none⟩) zs.length cap) Q):LD (w.setCell ⟨lb,i,none⟩ v) lb b cap id deal att zs Q:=
 ⟨by rw[aE w lb i _ _ _ h.row,List.setIfInBounds_toArray,e],fun a d=>by
  have:=h.ws a d;have f:=h.bl;unfold World.cell? at this ⊢;rw[show(w.setCell ⟨lb,i,none⟩ v).heap[(⟨b,0+a,none⟩:Addr).block]?=w.heap[(⟨b,0+a,none⟩:Addr).block]? from dS _ _ _ _ (by show b≠lb;omega)];exact this,h.bl,c,h.glo⟩
theorem LD.setSt(h:LD w lb b cap id deal att zs P)(k:Nat):LD (w.setCell ⟨lb,4,none⟩ (.string (stP k))) lb b cap id deal att zs { P with stt:=k }:=
 h.set ⟨h.pw.len,h.pw.lo,h.pw.hi⟩ rfl
theorem LD.setAns(h:LD w lb b cap id deal att zs P)(x:Int)(h0:0<=x)(h1:x<2^zs.length):LD (w.setCell ⟨lb,5,none⟩ (.int .i64 x)) lb b cap id deal att zs { P with ans:=x }:=
 h.set ⟨h.pw.len,h0,h1⟩ rfl
theorem LD.setPrep(h:LD w lb b cap id deal att zs P)(x:Int):LD (w.setCell ⟨lb,27,none⟩ (.int .i64 x)) lb b cap id deal att zs { P with prep:=x }:=by
 obtain⟨c,d,e,f,g,i,j,a⟩:=oE h.pw.len;exact h.set ⟨h.pw.len,h.pw.lo,h.pw.hi⟩ (by unfold pC;simp only[a];rfl)
theorem LD.setSeen(h:LD w lb b cap id deal att zs P)(x:Int):LD (w.setCell ⟨lb,28,none⟩ (.int .i64 x)) lb b cap id deal att zs { P with seen:=x }:=by
 obtain⟨c,d,e,f,g,i,j,a⟩:=oE h.pw.len;exact h.set ⟨h.pw.len,h.pw.lo,h.pw.hi⟩ (by unfold pC;simp only[a];rfl)
theorem LD.setHas(h:LD w lb b cap id deal att zs P)(x:Bool):LD (w.setCell ⟨lb,29,none⟩ (.bool x)) lb b cap id deal att zs { P with has:=x }:=by
 obtain⟨c,d,e,f,g,i,j,a⟩:=oE h.pw.len;exact h.set ⟨h.pw.len,h.pw.lo,h.pw.hi⟩ (by unfold pC;simp only[a];rfl)
end
def FrB(base:Nat)(w:World)(v:Value)(L:List F9):Prop:=∃ad cap,v=.slice ad L.length cap∧FL w ad L∧∀p,ad=some p->base<=p.block
theorem FrB.fr{base:Nat}{w:World}{v:Value}{L:List F9}(h:FrB base w v L):IsFr w v L:=by
 obtain⟨a,cap,b,c,-⟩:=h;exact⟨a,cap,b,c⟩
theorem FrB.mono{base B:Nat}{w:World}{v:Value}{L:List F9}(h:FrB base w v L)(a:B<=base):FrB B w v L:=by
 obtain⟨b,cap,c,d,e⟩:=h;exact⟨b,cap,c,d,fun f g=>bc a (e f g)⟩
theorem FrB.zero(base:Nat)(w:World):FrB base w (.slice none 0 0) []:=⟨none,0,rfl,FL.nil _ _,fun b a=>by cases a⟩
theorem FrB.owned{w:World}{base:Nat}{v:Value}{L:List F9}(h:w.ownsRow base 125 9 v L.length (am L)):FrB base w v L:=by
 obtain⟨b,cap,c,d⟩:=IsFr.owned h;subst c;refine⟨b,cap,rfl,d,fun g e=>?_⟩;subst e;rcases h.2 with⟨a,-⟩|⟨i,j,k,a,f,-⟩
 ·cases a
 ·cases a
  exact f
theorem Tryz.infoFq:(prog.info? 125).map (fun i=>(i.zero,i.size,i.bytes))=some (some (frV 0 0 0 0 0 false 0 0 0),9,72):=by kernel_rfl
theorem gE(w:World)(t:TypeId)(L:List Value):∀j a,L[j]?=some a->(w.alloc (.cells L.toArray t)).cell? ((⟨w.heap.size,0,none⟩:Addr).add j)=some a:=by
 intro j a b;rw[cZ,ai (aB w _),List.getElem?_toArray,Nat.zero_add];exact b
theorem oG(x:F9):∀a∈f9L x,a.oneCell'=true:=by
 intro a b;simp[f9L]at b;rcases b with rfl|rfl|rfl|rfl|rfl|rfl|rfl|rfl|rfl<;>rfl
theorem pd(lb b cap id:Nat)(deal att:Int)(zs:List Int)(P:PL)(kind ph:Int)(w:World)(h:LD w lb b cap id deal att zs P)(x:zs.length<=7):Calls prog 158 #[.pointer (some ⟨lb,0,none⟩),.int .i64 kind,.int .i64 ph] w fun e w'=>∃v,e=.returned v∧w'.ownsRow w.heap.size 125 9 v (toL id deal kind att ph zs.length).length (am (toL id deal kind att ph zs.length))∧Below w.heap.size w w':=by
 obtain⟨y,z,A,B,C⟩:=info_parts Tryz.infoFq;have n:=hid h;obtain⟨o,p,q,k,-,-,-,-,-⟩:=h.cells;clear h;obtain⟨d,D⟩:=nmd (zs.length);rw[D.out]at k x ⊢;obtain⟨c,f⟩:=nmd (toL id deal kind att ph);rw[f.out];have E:Hid (∀a,(c a).length=a):=by rw[<-f.out];exact eJ _ _ _ _ _
 have F:Hid (c 0=[]):=by rw[<-f.out];rfl
 go_enter func158,ntmps158
 go_wp2_with fail
 clear o p q k
 go_loopw [7,14] (fun v l wr=>∃a:Nat,a<=d∧l=iV (a:Int)∧wr.ownsRow w.heap.size 125 9 v (c a).length (am (c a))∧bW w wr) (fun _ l _=>d-(intOf l).toNat)
 case atStart=>exact⟨0,Nat.zero_le _,rfl,by rw[F.out];exact World.ownsRow_nil _ _ _ _,aF⟩
 case round =>
  obtain⟨a,Q,rfl,r,g⟩:=hrel;have m:=hid r;have i:=hid g;obtain⟨o,p,q,k,-,-,-,-,-⟩:=(n.later g).cells;have R:lb<wr.heap.size:=ah (n.later g).row;have S:=Nat.le_of_eq (E a);clear r g
  by_cases T:a<d
  ·have G:Hid (c (a+1)=c a++[⟨id,a,deal,kind,att,false,ph,0,0⟩]):=by rw[<-f.out];rfl
   have s:Hid ((c (a+1)).length=(c a).length+1∧am (c (a+1))=am (c a)++f9L ⟨id,a,deal,kind,att,false,ph,0,0⟩):=by
    rw[G.out];exact⟨by simp,by rw[cE];rfl⟩
   have H:=World.ownsRow.alloc m;have I:=i.size
   go_wp2_with fail
   go_region_law ((refine step_append_lies _ (by rfl) _ _ _ (by rfl) w.heap.size 125 y (frV 0 0 0 0 0 false 0 0 0) 9 72 underlying55 z A B C (by rfl) (by decide) _ (c a).length (am (c a)) (by rfl) (by exact H _) ⟨wr.heap.size,0,none⟩ 1 1 (f9L ⟨id,a,deal,kind,att,false,ph,0,0⟩) (by rfl) (by rfl) (by exact gE wr 125 (f9L ⟨id,a,deal,kind,att,false,ph,0,0⟩)) (by exact oG _) (by decide) (by unfold maxLen;omega) (by omega) (by exact bc I (by simp)) (wr.heap.size+1) (by simp) ?_;intro J K L t u M U;have j:=hid (And.intro (show L.ownsRow w.heap.size 125 9 (.slice (some ⟨J,0,none⟩) ((c a).length+1) K) (c (a+1)).length (am (c (a+1))) by rw[s.out.1,s.out.2];exact t) ((i.alloc i.size (.cells (f9L ⟨id,a,deal,kind,att,false,ph,0,0⟩).toArray 125)).drew.grown u (by simp;omega) (fun N O=>(m.lt N O).1)));clear t u M))
   all_goals go_wp2_with fail
   all_goals go_roundw
   all_goals first|exact⟨a+1,by omega,by go_num,j.1,j.2⟩|exact⟨a+1,by omega,by go_num,j.1,j.2.drew⟩|(simp[intOf];omega)
  ·obtain rfl:a=d:=by omega
   go_wp2_with fail
   go_ret
   exact⟨_,rfl,m,i⟩
theorem lB(lb b cap id:Nat)(deal att:Int)(zs:List Int)(P:PL)(kind ph:Int)(w:World)(h:LD w lb b cap id deal att zs P)(a:zs.length<=7):Calls prog 158 #[.pointer (some ⟨lb,0,none⟩),.int .i64 kind,.int .i64 ph] w fun e w'=>∃v,e=.returned v∧FrB w.heap.size w' v (toL id deal kind att ph zs.length)∧Below w.heap.size w w':=by
 refine(pd lb b cap id deal att zs P kind ph w h a).mono ?_;rintro e w' ⟨v,c,d,f⟩;exact⟨v,c,FrB.owned d,f⟩
theorem aiZ{w:World}{A:Nat->Addr}(h:Held3 w A)(i:Nat):gW i<w.heap.size:=by
 match i with
 | 0=>exact bY (h 3 (by omega) (by omega))
 | 1=>exact bY (h 1 (by omega) (by omega))
 | 2=>exact bY (h 2 (by omega) (by omega))
 | n+3=>exact bY (h 3 (by omega) (by omega))
theorem Held3.kept{S:Nat->Prop}{w w':World}{A:Nat->Addr}(h:Held3 w A)(k:Kept S w w')(a:∀i,S i->∀j,gW j<i):Held3 w' A:=fun i b c=>by
 have:=h i b c;have d:gW i<w.heap.size:=bY this;unfold World.cell? at this ⊢;rw[show w'.heap[(⟨gW i,0,none⟩:Addr).block]?=w.heap[(⟨gW i,0,none⟩:Addr).block]? from k.block _ d (fun e=>Nat.lt_irrefl _ (a (gW i) e i))];exact this
section
variable {w:World} {lb b cap id:Nat} {deal att:Int} {zs:List Int} {P:PL}
theorem kQ(p:Int)(h:LD w lb b cap id deal att zs P)(g:zs.length<=7):Calls prog 218 #[.pointer (some ⟨lb,0,none⟩),.int .i64 p] w fun e w'=>∃v,e=.returned v∧FrB w.heap.size w' v (dm id deal att zs.length (ku P p).2)∧LD w' lb b cap id deal att zs (ku P p).1∧Kept (In1 lb) w w':=by
 have l:=h.fz 4;have m:=h.cells.2.2.2.2.1;have a:=hid (h.setSt 2);have c:Hid (Kept (In1 lb) w (w.setCell ⟨lb,4,none⟩ (.string (stP 2)))):=(Kept.refl _ _).set1 4 _;have n:lb<w.heap.size:=ah h.row;clear h;rw[aaL]at a c
 go_enter func218,ntmps218
 go_wp2_with fail
 refine(lB lb b cap id deal att zs _ 7 p _ a g).mono ?_;rintro e o ⟨v,rfl,f,d⟩;have i:=hid (f.mono c.size);have j:=hid (a.later d);have k:=hid (c.trans (Kept.of_below d));clear f d
 go_wp2_with fail
 go_ret
 exact⟨_,rfl,i,j,k⟩
theorem mT(p:Int)(h:LD w lb b cap id deal att zs P)(g:zs.length<=7):Calls prog 219 #[.pointer (some ⟨lb,0,none⟩),.int .i64 p] w fun e w'=>∃v,e=.returned v∧FrB w.heap.size w' v (dm id deal att zs.length (lG P p).2)∧LD w' lb b cap id deal att zs (lG P p).1∧Kept (In1 lb) w w':=by
 have l:=h.fz 4;have m:=h.fz 5;have n:=h.fz 27;obtain⟨o,q,r,s,t,u,x,y,z⟩:=h.cells;have a:=hid (((h.setSt 1).setPrep p).setAns 0 (Int.le_refl _) (Int.pow_pos (by decide)));have c:Hid (Kept (In1 lb) w (((w.setCell ⟨lb,4,none⟩ (.string (stP 1))).setCell ⟨lb,27,none⟩ (iV p)).setCell ⟨lb,5,none⟩ (iV 0))):=(((Kept.refl _ _).set1 4 _).set1 27 _).set1 5 _;have A:lb<w.heap.size:=ah h.row;clear h;rw[aaa]at a c
 go_enter func219,ntmps219
 go_wp2_with fail
 refine(lB lb b cap id deal att zs _ 5 p _ a g).mono ?_;rintro e B ⟨v,rfl,f,d⟩;have i:=hid (f.mono c.size);have j:=hid (a.later d);have k:=hid (c.trans (Kept.of_below d));clear f d
 go_wp2_with fail
 go_ret
 exact⟨_,rfl,i,j,k⟩
theorem uf(A:Nat->Addr)(v:Value)(zs:List Int)(set:Int)(x:Bool)(w:World)(a:IsSl w v zs)(c:Held3 w A)(d:ii zs set=0)(f:bn zs set=x):Calls prog 246 #[v,.int .i64 set] w fun e w'=>e=.returned (.tuple #[.bool x,.nilIface])∧Below w.heap.size w w':=by
 subst f;exact acq A v zs set w a c d
theorem pc(A:Nat->Addr)(x:Bool)(h:LD w lb b cap id deal att zs P)(c:bT zs=0)(f:Held3 w A)(g:bn zs P.ans=x):Calls prog 220 #[.pointer (some ⟨lb,0,none⟩)] w fun e w'=>e=.returned (.bool x)∧Below w.heap.size w w':=by
 obtain⟨i,j,k,l⟩:=bp c;obtain⟨v,y,z,m,B,n,C,D,E⟩:=h.cells;have o:=hid (h.sl j);have p:Hid (ii zs P.ans=0):=rH c h.pw.lo h.pw.hi;have q:=hid f;have r:=hid g;clear h i k l f c g
 go_enter func220,ntmps220
 go_wp2_with fail
 have d:Hid (bW w w.drew):=aF.drew;have s:=hid (o.later d.out);have t:=hid (q.later d.out)
 go_region_held3 (fun w'=>w'.cell? ⟨lb,3,none⟩=some (.slice (some ⟨b,0,none⟩) zs.length cap)∧w'.cell? ⟨lb,5,none⟩=some (iV P.ans)) (go_keep) (first|(go_at_call 246;(with_reducible refine(uf A _ zs P.ans x _ s.out t.out p.out r.out).mono ?_);rintro e F ⟨rfl,a⟩;have u:=hid (d.trans a);have G:=ag a m;have H:=ag a n;clear a))
 all_goals cases x
 all_goals go_wp2_with fail
 all_goals go_ret
 all_goals exact⟨rfl,u.out⟩
theorem abB(p:Int)(h:LD w lb b cap id deal att zs P):Calls prog 193 #[.pointer (some ⟨lb,0,none⟩),.int .i64 p] w fun e w'=>e=.returned (.tuple #[])∧LD w' lb b cap id deal att zs (dI P p)∧Kept (In1 lb) w w':=by
 have s:=h.fz 28;have t:=h.fz 29;obtain⟨u,v,x,y,z,A,B,m,n⟩:=h.cells;have k:=hid ((h.setSeen p).setHas true);have l:Hid (Kept (In1 lb) w ((w.setCell ⟨lb,28,none⟩ (iV p)).setCell ⟨lb,29,none⟩ (.bool true))):=((Kept.refl _ _).set1 28 _).set1 29 _;have o:=hid h;have C:lb<w.heap.size:=ah h.row;clear h;obtain⟨d,f⟩:=nmd (P.has);rw[f.out]at n;obtain⟨g,i⟩:=nmd (P.seen);rw[i.out]at m
 by_cases a:d=false∨g<p
 ·have j:Hid (dI P p={ P with seen:=p,has:=true }):=by unfold Hid dI;rw[f.out,i.out];exact af a
  rw[j.out]
  cases d with
  | false =>
   go_enter func193,ntmps193
   go_wp2_with fail
   go_end0
   exact⟨rfl,k,l⟩
  | true =>
   have q:g<p:=by
    rcases a with a|a
    ·cases a
    ·exact a
   go_enter func193,ntmps193
   go_wp2_with fail
   go_end0
   exact⟨rfl,k,l⟩
 ·have j:Hid (dI P p=P):=by unfold Hid dI;rw[f.out,i.out];exact aa a
  rw[j.out];have r:d=true:=by
   cases d with
   | true=>rfl
   | false=>exact absurd (Or.inl rfl) a
  have q:¬g<p:=fun c=>a (.inr c)
  subst r;clear a
  go_enter func193,ntmps193
  go_wp2_with fail
  go_end0
  exact⟨rfl,o,Kept.refl _ _⟩
end
section
variable {w:World} {lb b cap id:Nat} {deal att:Int} {zs:List Int} {P:PL}
theorem wU(k:Int)(d:P.stt<4)(h:LD w lb b cap id deal att zs P):Calls prog 217 #[.pointer (some ⟨lb,0,none⟩),.int .i64 k] w fun e w'=>e=.returned (.bool (fS P att k))∧w'=w:=by
 obtain⟨l,m,n,o,a,p,q,r,s⟩:=h.cells;clear h;unfold fS;generalize P.stt=f at d a ⊢
 by_cases g:k=2
 ·subst g
  match f,d with
  | 0,_ =>
   rw[adl]at a
   by_cases c:att=0
   ·subst c
    go_enter func217,ntmps217
    go_wp2_with fail
    go_ret
    exact⟨rfl,rfl⟩
   ·go_enter func217,ntmps217
    go_wp2_with fail
    go_ret
    exact⟨by simp[c],rfl⟩
  | 1,_ =>
   rw[aaa]at a
   go_enter func217,ntmps217
   go_wp2_with fail
   go_ret
   exact⟨rfl,rfl⟩
  | 2,_ =>
   rw[aaL]at a
   go_enter func217,ntmps217
   go_wp2_with fail
   go_ret
   exact⟨rfl,rfl⟩
  | 3,_ =>
   rw[aac]at a
   go_enter func217,ntmps217
   go_wp2_with fail
   go_ret
   exact⟨rfl,rfl⟩
 ·by_cases i:k=4
  ·subst i
   match f,d with
   | 0,_ =>
    rw[adl]at a
    by_cases c:0<att
    ·go_enter func217,ntmps217
     go_wp2_with fail
     go_ret
     exact⟨by simp[c],rfl⟩
    ·go_enter func217,ntmps217
     go_wp2_with fail
     go_ret
     exact⟨by simp[c],rfl⟩
   | 1,_ =>
    rw[aaa]at a
    go_enter func217,ntmps217
    go_wp2_with fail
    go_ret
    exact⟨rfl,rfl⟩
   | 2,_ =>
    rw[aaL]at a
    go_enter func217,ntmps217
    go_wp2_with fail
    go_ret
    exact⟨rfl,rfl⟩
   | 3,_ =>
    rw[aac]at a
    go_enter func217,ntmps217
    go_wp2_with fail
    go_ret
    exact⟨rfl,rfl⟩
  ·by_cases j:k=6
   ·subst j
    match f,d with
    | 0,_ =>
     rw[adl]at a
     go_enter func217,ntmps217
     go_wp2_with fail
     go_ret
     exact⟨rfl,rfl⟩
    | 1,_ =>
     rw[aaa]at a
     go_enter func217,ntmps217
     go_wp2_with fail
     go_ret
     exact⟨rfl,rfl⟩
    | 2,_ =>
     rw[aaL]at a
     go_enter func217,ntmps217
     go_wp2_with fail
     go_ret
     exact⟨rfl,rfl⟩
    | 3,_ =>
     rw[aac]at a
     go_enter func217,ntmps217
     go_wp2_with fail
     go_ret
     exact⟨rfl,rfl⟩
   ·go_enter func217,ntmps217
    go_wp2_with fail
    go_ret
    exact⟨by simp[g,i,j],rfl⟩
end
theorem eo{g:Nat}{t:TypeId}:∀(b:List Value) (o:Nat) (w:World) (a:Array Value),w.heap[g]?=some (.cells a t (0,0))->o+b.length<=a.size ->
  (w.setCells g o b).heap[g]?=some (.cells (a.toList.take o++b++a.toList.drop (o+b.length)).toArray t (0,0))
 | [],o,w,a,h,_=>by simpa [World.setCells]using h
 | v::r,o,w,a,h,c=>by
  have h1:=aE w g o _ _ v h;have f:o+(r.length+1)<=a.size:=by simpa using c
  have d:=eo r (o+1) (w.setCell ⟨g,o,none⟩ v) _ h1 (by simp;omega);show((w.setCell ⟨g,o,none⟩ v).setCells g (o+1) r).heap[g]?=_;rw[d]
  congr 2
  apply Array.ext';simp only[Array.toList_setIfInBounds];rw[List.take_set,List.drop_set_of_lt (by omega),List.take_add_one];have e:a.toList[o]?=some (a.toList[o]'(by simp;omega)):=cG _;rw[e];simp only[Option.toList,List.set_append,bI,Array.length_toList];rw[aa (by omega),show o-min o a.size=0 by omega];simp
  congr 1
  omega
theorem dX(g:Nat):∀(a:List Value) (o:Nat) (w:World),Kept (In1 g) w (w.setCells g o a)
 | [],_,w=>Kept.refl _ w
 | v::r,o,w=>((Kept.refl _ w).set1 o v).trans (dX g r (o+1) _)
def zF:List Value:=[.int .i64 0,.int .i64 0,.int .i64 0,.int .i64 0,.int .i64 0,.bool false,.int .i64 0,.int .i64 0,.int .i64 0]
theorem abE:zF.length=9:=rfl
theorem ais:∀a∈zF,a.oneCell'=true:=by
 intro a b;simp[zF]at b;rcases b with rfl|rfl|rfl<;>rfl
theorem aai(w:World)(ty:TypeId)(b o c:Nat)(d:∀j,j<9->(w.cell? ⟨b,o+j,none⟩).isSome=true)(e:∀j,j<9->w.frozen? ⟨b,o+j,none⟩=false):(Builtin.clear_ #[55] ty #[.slice (some ⟨b,o,none⟩) 1 c]).run prog w=.ok (.tuple #[]) (w.setCells b o zF):=by
 have f:(Builtin.zeroCells (frV 0 0 0 0 0 false 0 0 0).cells 1).toList=zF:=by first|rfl|kernel_rfl
 have a:=run_storeCells_cells (P:=prog) b o zF 0 w (by simpa [zF]using d) (by simpa [zF]using e) ais;simp only[Nat.add_zero]at a;simp[Builtin.clear_,run_underlying underlying55,f,a]
theorem hJ(L:List F9)(k:Nat):am (L.take k)=(am L).take (k*9):=by
 induction L generalizing k with
 | nil=>simp[am]
 | cons a c b =>
  cases k with
  | zero=>simp[am]
  | succ k =>
   simp only[List.take_succ_cons,am,List.flatMap_cons]at *
   rw[b,List.take_append,bJ,List.take_of_length_le (l:=f9L a) (by rw[bJ];omega),show(k+1)*9-9=k*9 by omega]
theorem fA(L:List F9)(k:Nat):am (L.drop k)=(am L).drop (k*9):=by
 induction L generalizing k with
 | nil=>simp[am]
 | cons a c b =>
  cases k with
  | zero=>simp[am]
  | succ k =>
   simp only[List.drop_succ_cons,am,List.flatMap_cons]at *
   rw[b,List.drop_append,bJ,List.drop_of_length_le (l:=f9L a) (by rw[bJ];omega),show(k+1)*9-9=k*9 by omega];simp
theorem ahy(base g cap k j n:Nat)(f:Array Value)(L:List F9)(w:World)(m:w.heap[g]?=some (.cells f 125 (0,0)))(G:base<=g)(y:L.length=n)(h1:n<=cap)(z:cap<=maxLen)(l:f.size=cap*9)(ht:f.toList.take (n*9)=am L)(W:k<n)(A:j=k+1):Calls prog 159 #[.slice (some ⟨g,0,none⟩) n cap,.int .i64 (k:Int),.int .i64 (j:Int)] w fun e w'=>e=.returned (.slice (some ⟨g,0,none⟩) (n-1) cap)∧w'.ownsRow base 125 9 (.slice (some ⟨g,0,none⟩) (n-1) cap) (n-1) (am (L.eraseIdx k))∧Kept (In1 g) w w':=by
 obtain⟨H,I,X,J,Y⟩:=info_parts Tryz.infoFq;have K:n*9<=cap*9:=Nat.mul_le_mul_right 9 h1;have B:∀b,b<n*9->w.cell? ⟨g,b,none⟩=(am L)[b]?:=fun b q=>by
  rw[ai m,<-ht,List.getElem?_take_of_lt q,Array.getElem?_toList]
 have C:∀b,b<cap*9->(w.cell? ⟨g,b,none⟩).isSome=true:=fun b q=>by
  rw[ai m,Array.getElem?_eq_getElem (by rw[l];exact q)];rfl
 have D:∀b,w.frozen? ⟨g,b,none⟩=false:=fun b=>dN m
 have M:=ba L;obtain⟨a,r⟩:=nmb (am (L.drop j));have h:Hid (a.length=(n-j)*9):=by rw[r.out,ba,List.length_drop,y];exact rfl
 obtain⟨s,Z,N⟩:∃s:Addr,(if cap=j then some (⟨g,0,none⟩:Addr)else some ⟨g,j*9,none⟩)=some s∧Hid (∀c i,a[c]?=some i->w.drew.cell? (s.add c)=some i):=by
  by_cases E:cap=j
  ·refine⟨⟨g,0,none⟩,by simp[E],fun c i o=>?_⟩
   have O:a.length=0:=by rw[h.out];omega
   rw[List.length_eq_zero_iff.1 O]at o;simp at o
  ·refine⟨⟨g,j*9,none⟩,by simp[E],fun c i o=>?_⟩
   have t:=(List.getElem?_eq_some_iff.1 o).1;rw[h.out]at t;rw[cZ];show w.cell? ⟨g,j*9+c,none⟩=some i;rw[B _ (by omega),<-o,r.out,fA,List.getElem?_drop]
 have P:Hid (∀i∈a,i.oneCell'=true):=by rw[r.out];exact gK _
 have Q:Hid (∀c,c<a.length->(w.drew.cell? ⟨g,0+k*9+c,none⟩).isSome=true∧w.drew.frozen? ⟨g,0+k*9+c,none⟩=false):=by
  intro c t;rw[h.out]at t;exact⟨C _ (by omega),D _⟩
 obtain⟨d,u⟩:=nmd (w.drew.setCells g (0+k*9) a);have v:Hid (d.heap[g]?=some (.cells (f.toList.take (0+k*9)++a++f.toList.drop (0+k*9+a.length)).toArray 125 (0,0))):=by
  rw[<-u.out];exact eo a _ w.drew f m (by rw[h.out,l];omega)
 have R:Hid (Kept (In1 g) w d):=by rw[<-u.out];exact(Kept.refl _ w).drew.trans (dX g a _ _)
 have p:(f.toList.take (0+k*9)++a++f.toList.drop (0+k*9+a.length)).length=cap*9:=by
  rw[aR,aR,bI,List.length_drop,h.out,Array.length_toList,l];omega
 have a0:∀x,(Builtin.clear_ #[55] x #[.slice (some ⟨g,(k+(n-j))*9,none⟩) (n-(k+(n-j))) (cap-(k+(n-j)))]).run prog d=.ok (.tuple #[]) (d.setCells g ((k+(n-j))*9) zF):=by
  intro x;rw[show n-(k+(n-j))=1 by omega];exact aai d x g _ _ (fun b q=>by rw[ai v.out,List.getElem?_toArray,cG (by rw[p];omega)];rfl) (fun b _=>dN v)
 have F:Hid ((d.setCells g ((k+(n-j))*9) zF).ownsRow base 125 9 (.slice (some ⟨g,0,none⟩) (n-1) cap) (n-1) (am (L.eraseIdx k))):=by
  have S:=eo zF ((k+(n-j))*9) d _ v (by rw[List.size_toArray,p,abE];omega);refine⟨by rw[ba,List.length_eraseIdx_of_lt (by omega),y],.inr ⟨g,cap,_,rfl,G,S,by omega,z,?_,?_⟩⟩
  ·rw[List.size_toArray,aR,aR,bI,List.length_drop,List.toList_toArray,p,abE]
   omega
  ·have T:n-1=k+(n-j):=by omega
   rw[List.toList_toArray,List.toList_toArray,T];rw[List.append_assoc,List.take_append_of_le_length (by rw[bI,p];omega),List.take_take,Nat.min_self];rw[List.take_append_of_le_length (by rw[aR,bI,Array.length_toList,h.out,l];omega),List.take_of_length_le (by rw[aR,bI,Array.length_toList,h.out,l];omega)];rw[r.out,List.eraseIdx_eq_take_drop_succ,cE,hJ,A,Nat.zero_add,<-ht,List.take_take,Nat.min_eq_left (by omega)]
 have U:Hid (Kept (In1 g) w (d.setCells g ((k+(n-j))*9) zF)):=R.trans (dX g _ _ _);have V:Hid (n-1=k+(n-j)):=by show n-1=k+(n-j);omega
 have a1:cap<=9223372036854775807:=by unfold maxLen at z;omega
 have a2:k<=cap:=by omega
 have a3:j<=cap:=by omega
 have a4:j<=n:=by omega
 have a5:k<j:=by omega
 clear B C D m ht l A M p K;rw[V.out]at F ⊢
 go_enter func159,ntmps159
 go_wp2_with fail
 go_region_law (refine step_append_room rfl (.tmp 22) (.tmp 25) 55 rfl 125 H 9 underlying55 I J g 0 k cap (by simp[Act.eval,Act.put]) s (n-j) (cap-j) a (by simp[Act.eval,Act.put]) h N.out P.out (by omega) Q.out ?_;rw[u.out])
 go_wp2
 go_ret
 exact⟨rfl,F,U⟩
theorem jK(a b:List Value)(o k:Nat)(h:o+b.length<=a.length):(a.take o++b++a.drop (o+b.length))[k]?=if k<o then a[k]? else if k<o+b.length then b[k-o]? else a[k]?:=by
 by_cases c:k<o
 ·rw[af c,List.append_assoc,List.getElem?_append_left (by rw[bI];omega),List.getElem?_take_of_lt c]
 ·rw[aa c]
  by_cases d:k<o+b.length
  ·rw[af d,List.append_assoc,List.getElem?_append_right (by rw[bI];omega),bI,show min o a.length=o by omega,List.getElem?_append_left (by omega)]
  ·rw[aa d,List.getElem?_append_right (by rw[aR,bI];omega),aR,bI,show min o a.length=o by omega,List.getElem?_drop]
   congr 1
   omega
def OwnF(w:World)(base:Nat)(v:Value)(L:List F9):Prop:=
 (v=.slice none 0 0∧L=[])∨∃g o cap,∃cur:Array Value,v=.slice (some ⟨g,o,none⟩) L.length cap∧base<=g∧w.heap[g]?=some (.cells cur 125 (0,0))∧L.length<=cap∧cap<=maxLen∧o+cap*9<=cur.size∧∀j,j<L.length*9->cur[o+j]?=(am L)[j]?
section
variable {w w':World} {base:Nat} {v:Value} {L:List F9}
theorem OwnF.of_own(h:w.ownsRow base 125 9 v L.length (am L)):OwnF w base v L:=by
 rcases h.2 with⟨rfl,a⟩|⟨b,cap,c,rfl,d,e,f,g,k,i⟩
 ·exact .inl ⟨rfl,List.length_eq_zero_iff.1 a⟩
 ·refine .inr ⟨b,0,cap,c,rfl,d,e,f,g,by omega,fun l j=>?_⟩
  rw[<-i,List.getElem?_take_of_lt j,Array.getElem?_toList,Nat.zero_add]
theorem OwnF.kept{S:Nat->Prop}(h:OwnF w base v L)(k:Kept S w w')(a:∀g,v.ownBlock=some g->¬S g):OwnF w' base v L:=by
 rcases h with h|⟨g,b,cap,c,rfl,d,e,rest⟩
 ·exact .inl h
 ·exact .inr ⟨g,b,cap,c,rfl,d,k.row e (a g rfl),rest⟩
theorem OwnF.lt(h:OwnF w base v L):∀g,v.ownBlock=some g->base<=g∧g<w.heap.size:=by
 intro b a;rcases h with⟨rfl,-⟩|⟨g,e,cap,f,rfl,c,d,rest⟩
 ·cases a
 ·obtain rfl:g=b:=bF a
  exact⟨c,ah d⟩
theorem OwnF.form(h:OwnF w base v L):∃a cap,v=.slice a L.length cap:=by
 rcases h with⟨rfl,rfl⟩|⟨b,c,cap,d,rfl,-⟩
 ·exact⟨none,0,rfl⟩
 ·exact⟨_,_,rfl⟩
theorem OwnF.splice{g o cap:Nat}{a:Array Value}{M:List F9}(e:base<=g)(f:w.heap[g]?=some (.cells a 125 (0,0)))(b:L.length+M.length<=cap)(h:cap<=maxLen)(n:o+cap*9<=a.size)(i:∀j,j<L.length*9->a[o+j]?=(am L)[j]?):OwnF (w.setCells g (o+L.length*9) (am M)) base (.slice (some ⟨g,o,none⟩) (L.length+M.length) cap) (L++M):=by
 have k:=ba M;have c:o+L.length*9+(am M).length<=a.size:=by rw[k];have:=Nat.mul_le_mul_right 9 b;rw[Nat.add_mul]at this;omega
 have l:=eo (am M) (o+L.length*9) w a f c;refine .inr ⟨g,o,cap,_,by rw[aR],e,l,by rw[aR];exact b,h,?_,fun j m=>?_⟩
 ·rw[List.size_toArray,aR,aR,bI,List.length_drop,Array.length_toList (xs:=a)];omega
 ·rw[aR,Nat.add_mul]at m
  rw[List.getElem?_toArray,jK _ _ _ _ (by rw[Array.length_toList (xs:=a)];exact c),cE]
  by_cases d:j<L.length*9
  ·rw[af (by omega),Array.getElem?_toList,i j d,List.getElem?_append_left (by rw[ba];exact d)]
  ·rw[aa (by omega),af (by omega),List.getElem?_append_right (by rw[ba];omega),ba]
   congr 1
   omega
end
end Go.Proofs.YtaehdgemkafinaaGreatDoor
namespace Go.Proofs.YtaehdgemkafinaaGreatDoor
open Go.Proofs.Tryz
theorem aec{zs:List Int}{P:PL}{f:F9}(h:P.stt<4):(cO zs P f).1.stt<4:=by
 have a:(dI (cP P f) f.pr).stt<4:=by rw[(jn _ _).1];exact h
 unfold cO
 split
 ·unfold gh;split
  ·show 2<4;decide
  ·split
   ·show 1<4;decide
   ·exact h
 ·split
  ·show 3<4;decide
  ·split
   ·unfold gj
    split
    ·exact a
    ·split
     ·show 2<4;decide
     ·show 1<4;decide
   ·unfold im
    split
    ·exact a
    ·show 2<4;decide
theorem tN{zs:List Int}{id:Nat}{deal att:Int}{P:PL}{f:F9}(h:P.stt<4):(aL zs id deal att P f).1.stt<4:=by
 unfold aL
 split
 ·exact aec h
 ·exact h
end Go.Proofs.YtaehdgemkafinaaGreatDoor
