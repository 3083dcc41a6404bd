/-
  On the way to SPlaysProof: Z0 PB J0 J1 JD Z1 Code ZK Plain JA RTE.
-/
import Derived.Test.YtaehdgemkafinaaGreatDoorProg
import Derived.WalkKit
import Derived.WalkLawsBesides
import Derived.WalkSpells
import Derived.OwnWalk
import Derived.Great.Frames
import Derived.Lib.AppendStr
import Derived.Laws.Strings2
import Derived.Laws.IdiomStrings
import Derived.BigQuiet
import Derived.Deep.QuietTactic
import Derived.Deep.RegionWith
import Derived.Deep.RegionHeld3
import Derived.Laws.EntriesVeiled
import Derived.LaidEql
import Derived.Stop.Asserts
import Derived.RowKitTokens
import Derived.Below
set_option maxHeartbeats 8000000
set_option maxRecDepth 100000
namespace Go.Proofs.YtaehdgemkafinaaGreatDoor
open Go.RowKit
open Go.Proofs.Tryz
theorem hid{p:Prop}(h:p):Hid p:=h
theorem fJ{k:IntKind}{a b:Int}(h:a=b):Ending.returned (.int k a)=.returned (.int k b):=by rw[h]
theorem eF{k:IntKind}{a b:Int}(h:a=b):Value.int k a=.int k b:=by rw[h]
theorem bM{w:World}{p:Addr}{v:Value}(o:Obj)(h:w.cell? p=some v):(w.alloc o).cell? p=some v:=
 cell_later ((Below.refl _ _).alloc (Nat.le_refl _) o) h
theorem bY{w:World}{p:Addr}{v:Value}(h:w.cell? p=some v):p.block<w.heap.size:=by
 rcases Nat.lt_or_ge p.block w.heap.size with a|a
 ·exact a
 ·simp[World.cell?,Array.getElem?_eq_none a]at h
theorem cZ(b a j:Nat):(⟨b,a,none⟩:Addr).add j=⟨b,a+j,none⟩:=by
 unfold Addr.add;split<;>simp_all
theorem ao{a b c:World}(h:Below a.heap.size a b)(k:Below b.heap.size b c):Below a.heap.size a c:=h.trans (k.mono h.size)
theorem ah{w:World}{b:Nat}{o:Obj}(h:w.heap[b]?=some o):b<w.heap.size:=(Array.getElem?_eq_some_iff.1 h).1
theorem dC{w w':World}{e:TypeId}{size n base B:Nat}{v:Value}{xs:List Value}(h:w.ownsRow base e size v n xs)(c:Below B w w')(d:w.heap.size≤B):w'.ownsRow base e size v n xs:=by
 refine⟨h.1,?_⟩;rcases h.2 with f|⟨a,cap,g,rfl,i,b,rest⟩
 ·exact .inl f
 ·exact .inr ⟨a,cap,g,rfl,i,(c.block a (Nat.lt_of_lt_of_le (ah b) d)).trans b,rest⟩
abbrev iV(n:Int):Value:=.int .i64 n
abbrev pV(b:Nat):Value:=.pointer (some ⟨b,0,none⟩)
abbrev bW(w w':World):Prop:=Below w.heap.size w w'
theorem nmd{α:Sort _}(a:α):∃x,Hid (a=x):=⟨_,rfl⟩
theorem nmb{α:Sort _}(a:α):∃x,Hid (x=a):=⟨_,rfl⟩
theorem aj{n:Nat}:n≤n:=Nat.le_refl _
theorem aD{w:World}{o:Obj}:Below w.heap.size w (w.alloc o):=(Below.refl _ _).alloc (Nat.le_refl _) _
theorem ai{w:World}{g j:Nat}{cs:Array Value}{t:TypeId}{fr:Nat×Nat}(hg:w.heap[g]?=some (.cells cs t fr)):w.cell? ⟨g,j,none⟩=cs[j]?:=cell_of_row _ _ _ _ _ _ hg
theorem dN{w:World}{b i:Nat}{cs:Array Value}{t:TypeId}(h:w.heap[b]?=some (.cells cs t (0,0))):w.frozen? ⟨b,i,none⟩=false:=frozen_of_row _ _ _ _ _ h
theorem aa{c:Prop}{h:Decidable c}(hn:¬c){α:Sort _}{t e:α}:ite c t e=e:=if_neg hn
theorem af{c:Prop}{h:Decidable c}(hc:c){α:Sort _}{t e:α}:ite c t e=t:=if_pos hc
theorem ag{w x:World}{a:Addr}{v:Value}(hb:Below w.heap.size w x)(h:w.cell? a=some v):x.cell? a=some v:=cell_later hb h
theorem aB(w:World)(o:Obj):(w.alloc o).heap[w.heap.size]?=some o:=heap_alloc_new w o
theorem aF{B:Nat}{w:World}:Below B w w:=Below.refl B w
theorem aU(n:Nat):Int.toNat (n:Int)=n:=Int.toNat_natCast n
theorem aE(w:World)(g i:Nat)(cs:Array Value)(t:TypeId)(v:Value)(h:w.heap[g]?=some (.cells cs t (0,0))):(w.setCell ⟨g,i,none⟩ v).heap[g]?=some (.cells (cs.setIfInBounds i v) t (0,0)):=heap_setCell_same w g i cs t v h
theorem dS(w:World)(a:Addr)(k:Nat)(v:Value)(h:k≠a.block):(w.setCell a v).heap[k]?=w.heap[k]?:=heap_setCell_other w a k v h
theorem bD{a:Int}(h:0≤a):∃n:Nat,a=(n:Int):=Int.eq_ofNat_of_zero_le h
theorem aR{α:Type _}{a b:List α}:(a++b).length=a.length+b.length:=List.length_append
theorem aK(w:World)(g j:Nat)(cs:Array Value)(t:TypeId)(h:w.heap[g]?=some (.cells cs t (0,0))):w.frozen? ⟨g,j,none⟩=false:=frozen_of_row w g j cs t h
theorem aG(w:World)(g j:Nat)(cs:Array Value)(t:TypeId)(fr:Nat×Nat)(h:w.heap[g]?=some (.cells cs t fr)):w.cell? ⟨g,j,none⟩=cs[j]?:=cell_of_row w g j cs t fr h
theorem bm{a b c:Nat}(h:a<b)(k:b≤c):a<c:=Nat.lt_of_lt_of_le h k
theorem bc{a b c:Nat}(h:a≤b)(k:b≤c):a≤c:=Nat.le_trans h k
theorem aP(n:Nat):n≤Nat.succ n:=Nat.le_succ n
theorem bU(a b:Nat):a<b∨a ≥ b:=Nat.lt_or_ge a b
theorem bO{α:Type _}{l:List α}(h:0<l.length):∃x t,l=x::t:=List.exists_cons_of_length_pos h
theorem aS{p:Prop}[i:Decidable p](h:¬p):decide p=false:=decide_eq_false h
theorem bo{p:Prop}[i:Decidable p](h:p):decide p=true:=decide_eq_true h
theorem cK{p:Prop}[i:Decidable p](h:decide p=true):p:=of_decide_eq_true h
theorem cG{α:Type _}{l:List α}{i:Nat}(h:i<l.length):l[i]?=some l[i]:=List.getElem?_eq_getElem h
theorem bF{α:Type _}{a b:α}(h:some a=some b):a=b:=Option.some.inj h
theorem bE(a:Act)(d j:Nat)(v:Value)(h:d≠j):(a.put (some d) v).eval (.tmp j)=a.eval (.tmp j):=Act.eval_put_ne a d j v h
theorem eP(a:Act)(d:Nat)(v:Value)(h:d<a.tmps.size):(a.put (some d) v).eval (.tmp d)=v:=Act.eval_put_same a d v h
theorem aJ{B:Nat}{a w:World}(h:Below B a w)(n:Nat):Below B a (w.drewN n):=below_drewN h n
theorem bq{α:Type _}{a:α}{l:List α}:(a::l).length=l.length+1:=List.length_cons
theorem bI{α:Type _}{i:Nat}{l:List α}:(l.take i).length=min i l.length:=List.length_take
theorem bh{P:Program}{fn:Func}{R:Ending→World→Prop}{a:Act}{w:World}{v:Value}(h:(results fn a.tmps).run P w=.ok v w)(k:a.defers=[])(r:R (.returned v) w):bodyPost P fn R .ret a w:=bodyPost_ret h k r
theorem aiX{α:Type _}[i:BEq α][j:LawfulBEq α]{a b:α}:(a==b)=false ↔ a≠b:=beq_eq_false_iff_ne
end Go.Proofs.YtaehdgemkafinaaGreatDoor
namespace Go.Proofs.YtaehdgemkafinaaGreatDoor
open Go.Proofs.Tryz
def eW(B:ByteArray)(a:Nat)(s:ByteArray)(k:Nat):ByteArray:=B.extract 0 a++s.extract 0 k++B.extract (a+k) B.size
theorem dE(B:ByteArray)(i j:Nat):(B.extract i j).data.toList=(B.data.toList.drop i).take (j-i):=by
 have a:=ByteArray.extract_mk B.data.toList i j;have b:ByteArray.mk B.data.toList.toArray=B:=by cases B;simp
 rw[b]at a;rw[a]
theorem bj(B:ByteArray):B.size=B.data.toList.length:=rfl
theorem jV(B:ByteArray)(a:Nat)(s:ByteArray)(k:Nat):(eW B a s k).data.toList=B.data.toList.take a++s.data.toList.take k++B.data.toList.drop (a+k):=by
 unfold eW;rw[ByteArray.data_append,ByteArray.data_append,Array.toList_append,Array.toList_append,dE,dE,dE];simp only[List.drop_zero,Nat.sub_zero]
 congr 1
 rw[List.take_of_length_le];rw[List.length_drop,bj];exact aj
theorem gA{B:ByteArray}{a:Nat}{s:ByteArray}{k:Nat}(h:a+k<=B.size)(b:k<=s.size):(eW B a s k).size=B.size:=by
 rw[bj]at h b;rw[bj,bj,jV];simp only[aR,bI,List.length_drop];omega
theorem kG{X a:ByteArray}(h:X.data.toList=a.data.toList):X=a:=ByteArray.ext (Array.ext' h)
theorem nA{B:ByteArray}{a:Nat}{s:ByteArray}:eW B a s 0=B:=by
 apply kG;rw[jV];simp
theorem aer{α:Type}(L S:List α)(a k:Nat)(d:α)(h:a+k<L.length)(f:k<S.length):L.take a++S.take (k+1)++L.drop (a+(k+1))=(L.take a++S.take k++L.drop (a+k)).set (a+k) (S.getD k d):=by
 apply List.ext_getElem?;intro b;simp only[List.getElem?_set,List.getElem?_append,aR,bI,List.getElem?_take,List.getElem?_drop,List.length_drop];have g:min a L.length=a:=by omega
 have i:min (k+1) S.length=k+1:=by omega
 have j:min k S.length=k:=by omega
 simp only[g,i,j];rcases Nat.lt_trichotomy b (a+k)with c|c|c
 ·by_cases e:b<a
  ·simp[e,show b<a+(k+1) by omega,show ¬a+k=b by omega,show b<a+k by omega]
  ·simp[e,show b<a+(k+1) by omega,show ¬a+k=b by omega,show b<a+k by omega,show b-a<k+1 by omega,show b-a<k by omega]
 ·subst c
  simp[show a+k<a+(k+1) by omega,show a+k-a=k by omega,show k<k+1 by omega,f,List.getD];rw[aa (by omega),af (by omega)]
 ·simp[show ¬b<a+(k+1) by omega,show ¬a+k=b by omega,show ¬b<a+k by omega]
  congr 1
  omega
theorem jC{s:ByteArray}{k:Nat}(a:k<s.size):s[k]'a=s.data.toList[k]'a:=by
 have:s[k]'a=s.data[k]'a:=rfl;rw[this,<-Array.getElem_toList]
theorem acn{B:ByteArray}{a:Nat}{s:ByteArray}{k:Nat}(h:a+k<B.size)(b:k<s.size):(Lib.strCells (eW B a s (k+1))).toArray=(Lib.strCells (eW B a s k)).toArray.setIfInBounds (a+k) (.int .u8 ((s[k]'b).toNat:Int)):=by
 apply Array.ext';rw[bj]at h;have c:=b;rw[bj]at c;simp only[Lib.strCells,Array.toList_setIfInBounds];rw[jV,jV,aer _ _ a k 0 h c,List.map_set]
 congr 1
 rw[jC b,List.getD_eq_getElem?_getD,cG c];rfl
theorem we{B:ByteArray}{j:Nat}(h:j<B.size):(Lib.strCells B)[j]?=some (.int .u8 ((B[j]'h).toNat:Int)):=by
 rw[Lib.strCells,List.getElem?_map,cG h,jC h];rfl
def bt(n:Nat):Nat->List UInt8
 | 0=>[]
 | k+1=>bt (n / 256) k++[UInt8.ofNat (n%256)]
theorem bC(k:Nat):∀n,(bt n k).length=k:=by
 induction k with
 | zero=>intro n;rfl
 | succ k a=>intro n;simp[bt,a]
def eg(l:List UInt8):Nat:=l.foldl (fun n b=>256*n+b.toNat) 0
theorem ng(l:List UInt8)(b:UInt8):eg (l++[b])=256*eg l+b.toNat:=by simp[eg]
theorem li(k:Nat):∀n,eg (bt n k)=n%256^k:=by
 induction k with
 | zero=>intro n;simp[bt,eg,Nat.mod_one]
 | succ k a =>
  intro n;rw[bt,ng,a];have b:(UInt8.ofNat (n%256)).toNat=n%256:=by simp
  rw[b,Nat.pow_succ,Nat.mul_comm (256^k) 256,Nat.mod_mul];omega
theorem rr(l:List UInt8):eg l<256^l.length:=by
 have b:∀a:List UInt8,eg a.reverse<256^a.length:=by
  intro a
  induction a with
  | nil=>simp[eg]
  | cons c a d =>
   rw[List.reverse_cons,ng,bq,Nat.pow_succ];have e:=UInt8.toNat_lt c;omega
 have:=b l.reverse
 rwa [List.reverse_reverse,List.length_reverse]at this
def ks(c b k:Nat):Nat:=if(c ^^^ (b / 2^k))%2=1 then(c / 2) ^^^ 3988292384 else c / 2
def et(c b:Nat):Nat->Nat
 | 0=>c
 | k+1=>ks (et c b k) b k
def ed(c:Nat):List UInt8->Nat
 | []=>c
 | b::l=>ed (et c b.toNat 8) l
def io(l:List UInt8):Nat:=ed 4294967295 l ^^^ 4294967295
theorem ac7{c:Nat}(h:c<4294967296)(b k:Nat):ks c b k<4294967296:=by
 unfold ks
 split
 ·exact Nat.xor_lt_two_pow (n:=32) (by omega) (by decide)
 ·omega
theorem mJ{c:Nat}(h:c<4294967296)(b:Nat):∀k,et c b k<4294967296
 | 0=>h
 | k+1=>ac7 (mJ h b k) b k
theorem kd:∀(l:List UInt8) {c:Nat},c<4294967296->ed c l<4294967296
 | [],_,h=>h
 | b::l,_,h=>kd l (mJ h b.toNat 8)
theorem yl(l:List UInt8):io l<4294967296:=Nat.xor_lt_two_pow (n:=32) (kd l (by decide)) (by decide)
theorem kU(b:UInt8):∀(l:List UInt8) (c:Nat),ed c (l++[b])=et (ed c l) b.toNat 8
 | [],_=>rfl
 | x::l,c=>kU b l (et c x.toNat 8)
structure St where
 ph:Nat
 pr:Nat
 at_:Nat
def nC(a b:St):Bool:=decide (a.ph=b.ph∧a.pr=b.pr∧a.at_=b.at_)
theorem lI{a b:St}(h:nC a b=true):a=b:=by
 obtain⟨c,d,e⟩:=cK h
 cases a;cases b
 cases c;cases d;cases e;rfl
theorem kD{a b:St}(h:nC a b=false):¬a=b:=fun c=>of_decide_eq_false h (by subst c;exact⟨rfl,rfl,rfl⟩)
def ad7(a b:St):Decidable (a=b):=if h:nC a b=true then .isTrue (lI h)else .isFalse (kD (Bool.eq_false_iff.2 h))
def St.zero:St:=⟨0,0,0⟩
def St.fits(s:St):Prop:=s.ph<256∧s.pr<4294967296∧s.at_<4294967296
def fN(n:Nat)(s:St):List UInt8:=bt n 4++bt s.ph 1++bt s.pr 4++bt s.at_ 4
def aY(n:Nat)(s:St):List UInt8:=fN n s++bt (io (fN n s)) 4
theorem oj(n:Nat)(s:St):(fN n s).length=13:=by simp[fN,bC]
theorem cJ(n:Nat)(s:St):(aY n s).length=17:=by simp[aY,oj,bC]
def cT(t:List UInt8):Nat:=eg (t.take 4)
def eG(t:List UInt8):St:=⟨eg ((t.drop 4).take 1),eg ((t.drop 5).take 4),eg ((t.drop 9).take 4)⟩
def cy(k:Nat)(t:List UInt8):Nat×St:=if 1<=cT t∧cT t%2=k%2∧aY (cT t) (eG t)++[165]=t then(cT t,eG t)else(0,St.zero)
theorem jj{α:Type}{a b:List α}{n:Nat}(h:a.length=n):(a++b).take n=a:=by rw[<-h];simp
theorem mK{α:Type}{a b:List α}{n:Nat}(h:a.length=n):(a++b).drop n=b:=by rw[<-h];simp
theorem yD(n:Nat)(s:St)(r:List UInt8)(a:n<4294967296):cT (aY n s++r)=n:=by
 unfold cT aY fN;rw[List.append_assoc,List.append_assoc,List.append_assoc,List.append_assoc,jj (bC 4 n),li];exact Nat.mod_eq_of_lt a
theorem zc(n:Nat)(s:St)(r:List UInt8)(c:s.fits):eG (aY n s++r)=s:=by
 obtain⟨d,e,f⟩:=c;have g:aY n s++r=bt n 4++(bt s.ph 1++(bt s.pr 4++(bt s.at_ 4++(bt (io (fN n s)) 4++r)))):=by simp[aY,fN]
 have a:(aY n s++r).drop 4=bt s.ph 1++(bt s.pr 4++(bt s.at_ 4++(bt (io (fN n s)) 4++r))):=by rw[g,mK (bC 4 n)]
 have b:(aY n s++r).drop 5=bt s.pr 4++(bt s.at_ 4++(bt (io (fN n s)) 4++r)):=by
  rw[show(5:Nat)=4+1 from rfl,<-List.drop_drop,a,mK (bC 1 _)]
 have h:(aY n s++r).drop 9=bt s.at_ 4++(bt (io (fN n s)) 4++r):=by
  rw[show(9:Nat)=5+4 from rfl,<-List.drop_drop,b,mK (bC 4 _)]
 unfold eG;rw[a,b,h,jj (bC 1 _),jj (bC 4 _),jj (bC 4 _),li,li,li,Nat.mod_eq_of_lt (by simpa using d),Nat.mod_eq_of_lt (by simpa using e),Nat.mod_eq_of_lt (by simpa using f)]
theorem aaB(k n:Nat)(s:St)(h1:1<=n)(a:n<4294967296)(b:n%2=k%2)(c:s.fits):cy k (aY n s++[165])=(n,s):=by
 unfold cy;rw[yD n s _ a,zc n s _ c,af ⟨h1,b,rfl⟩]
theorem qC(k:Nat)(t:List UInt8)(b:UInt8)(h:t.getLast? = some b)(a:b≠165):cy k t=(0,St.zero):=by
 unfold cy;rw[aa];rintro⟨_,_,c⟩;rw[<-c]at h;simp at h;exact a h.symm
theorem oa(k:Nat)(t:List UInt8)(h:(cy k t).1≠0):(cy k t).1%2=k%2:=by
 unfold cy at h ⊢
 split
 ·rename_i a;exact a.2.1
 ·rename_i a;rw[aa a]at h;exact absurd rfl h
theorem qT(k:Nat)(t:List UInt8)(h:(cy k t).1=0):cy k t=(0,St.zero):=by
 unfold cy at h ⊢
 split
 ·rename_i a;rw[af a]at h;exact absurd h (by have:=a.1;omega)
 ·rfl
theorem mC(t:List UInt8):cT t<4294967296:=by
 have b:=rr (t.take 4);have a:(t.take 4).length<=4:=by simp;omega
 have c:256^(t.take 4).length<=256^4:=Nat.pow_le_pow_right (by decide) a;unfold cT;have d:(256:Nat)^4=4294967296:=by decide
 omega
theorem pT(k:Nat)(t:List UInt8):(cy k t).1<4294967296:=by
 unfold cy
 split
 ·exact mC t
 ·decide
def iQ(L:List UInt8)(a:Nat)(S:List UInt8):List UInt8:=L.take a++S++L.drop (a+S.length)
theorem wv{L S:List UInt8}{a:Nat}(h:a+S.length<=L.length):(iQ L a S).length=L.length:=by
 simp[iQ];omega
theorem pQ(L:List UInt8)(a:Nat):iQ L a []=L:=by simp[iQ]
theorem jy{L S:List UInt8}{a:Nat}(h:a+S.length<=L.length)(j:Nat):(iQ L a S)[j]?=if a<=j∧j<a+S.length then S[j-a]? else L[j]?:=by
 unfold iQ;have d:min a L.length=a:=by omega
 simp only[List.getElem?_append,aR,bI,List.getElem?_take,List.getElem?_drop,d];rcases bU j a with b|b
 ·rw[af (by omega),af b,af b,aa (by omega)]
 ·rcases bU j (a+S.length)with c|c
  ·rw[af c,aa (by omega),af ⟨b,c⟩]
  ·rw[aa (by omega),aa (by omega)]
   congr 1
   omega
theorem ti{B s:ByteArray}{a k:Nat}(b:k<=s.size):(eW B a s k).data.toList=iQ B.data.toList a (s.data.toList.take k):=by
 rw[jV];unfold iQ;rw[bj]at b;rw[bI,Nat.min_eq_left b]
def aN(L:List UInt8)(k:Nat):List UInt8:=(L.drop (18*k)).take 18
theorem fT(L:List UInt8)(k j:Nat):(aN L k)[j]?=if j<18 then L[18*k+j]? else none:=by
 unfold aN;rw[List.getElem?_take,List.getElem?_drop]
theorem eR{L:List UInt8}{k:Nat}(h:18*(k+1)<=L.length):(aN L k).length=18:=by
 simp[aN];omega
def au(L:List UInt8)(d:Nat):Nat×St:=
 if(cy (2*d) (aN L (2*d))).1<(cy (2*d+1) (aN L (2*d+1))).1 then cy (2*d+1) (aN L (2*d+1))else cy (2*d) (aN L (2*d))
structure Only (L:List UInt8) (k:Nat) (L':List UInt8):Prop where
 len:L'.length=L.length
 other:∀j,j≠k->aN L' j=aN L j
theorem Only.refl(L:List UInt8)(k:Nat):Only L k L:=⟨rfl,fun _ _=>rfl⟩
theorem Only.trans{L L' a:List UInt8}{k:Nat}(h:Only L k L')(g:Only L' k a):Only L k a:=⟨g.len.trans h.len,fun b c=>(g.other b c).trans (h.other b c)⟩
theorem mF{L S:List UInt8}{k i:Nat}(a:18*(k+1)<=L.length)(b:i+S.length<=18):Only L k (iQ L (18*k+i) S):=by
 refine⟨wv (by omega),fun c d=>?_⟩;apply List.ext_getElem?;intro e;rw[fT,fT]
 split
 ·rw[jy (by omega),aa (by omega)]
 ·rfl
theorem mM{L S:List UInt8}{k i:Nat}(d:18*(k+1)<=L.length)(e:i+S.length<=18):aN (iQ L (18*k+i) S) k=iQ (aN L k) i S:=by
 apply List.ext_getElem?;intro b;rw[fT,jy (by omega),jy (by rw[eR d];omega),fT]
 by_cases a:b<18
 ·rw[af a,af a]
  by_cases c:i<=b∧b<i+S.length
  ·rw[af (by omega),af c]
   congr 1
   omega
  ·rw[aa (by omega),aa c]
 ·rw[aa a,aa a,aa (by omega)]
def ot(L:List UInt8)(k:Nat)(L':List UInt8):Prop:=Only L k L'∧(aN L' k=aN L k∨∃b:UInt8,b≠165∧(aN L' k)[17]?=some b)
def adz(L:List UInt8)(k n:Nat)(s:St)(L':List UInt8):Prop:=Only L k L'∧aN L' k=aY n s++[165]
def dt(d m:Nat):Nat:=2*d+(m+1)%2
theorem qL{t:List UInt8}{b:UInt8}(a:t.length=18)(h:t[17]?=some b):t.getLast? = some b:=by rw[List.getLast?_eq_getElem?,a];exact h
theorem qu{L L':List UInt8}{d m e:Nat}(h:Only L (dt d m) L')(a:e≠d):au L' e=au L e:=by
 unfold dt at h;unfold au;rw[h.other (2*e) (by omega),h.other (2*e+1) (by omega)]
theorem abD{L L':List UInt8}{d:Nat}(s:36*(d+1)<=L.length)(h:ot L (dt d (au L d).1) L'):au L' d=au L d:=by
 obtain⟨a,f⟩:=h;rcases f with f|⟨j,k,l⟩
 ·have all:∀c,aN L' c=aN L c:=fun c=>by
   by_cases g:c=dt d (au L d).1
   ·rw[g];exact f
   ·exact a.other c g
  unfold au;rw[all,all]
 ·have m:18*(dt d (au L d).1+1)<=L'.length:=by rw[a.len];unfold dt;omega
  have b:=fun n=>qC n _ j (qL (eR m) l) k
  have o:=oa (2*d) (aN L (2*d));have p:=oa (2*d+1) (aN L (2*d+1));have t:=qT (2*d) (aN L (2*d));have u:=qT (2*d+1) (aN L (2*d+1));unfold dt at a b;unfold au at a b ⊢
  by_cases i:(cy (2*d) (aN L (2*d))).1<(cy (2*d+1) (aN L (2*d+1))).1
  ·rw[af i]at a b ⊢
   have q:=p (by omega);have e:((cy (2*d+1) (aN L (2*d+1))).1+1)%2=0:=by omega
   rw[e,Nat.add_zero]at a b;rw[a.other (2*d+1) (by omega),b (2*d),af (by show 0<_;omega)]
  ·rw[aa i]at a b ⊢
   by_cases r:(cy (2*d) (aN L (2*d))).1=0
   ·have e:((cy (2*d) (aN L (2*d))).1+1)%2=1:=by omega
    rw[e]at a b;rw[a.other (2*d) (by omega),b (2*d+1),aa (by show ¬_<0;omega)]
   ·have q:=o r
    have e:((cy (2*d) (aN L (2*d))).1+1)%2=1:=by omega
    rw[e]at a b;rw[a.other (2*d) (by omega),b (2*d+1),aa (by show ¬_<0;omega)]
theorem acz{L L':List UInt8}{d:Nat}{s:St}(i:(au L d).1+1<4294967296)(j:s.fits)(h:adz L (dt d (au L d).1) ((au L d).1+1) s L'):au L' d=((au L d).1+1,s):=by
 obtain⟨a,b⟩:=h;have l:(cy (2*d) (aN L (2*d))).1<=(au L d).1∧(cy (2*d+1) (aN L (2*d+1))).1<=(au L d).1:=by
  unfold au;split<;>omega
 have f:=fun g (k:((au L d).1+1)%2=g%2)=>aaB g ((au L d).1+1) s (by omega) i k j
 generalize au L d=c at *
 unfold dt at a b;unfold au;rcases Nat.mod_two_eq_zero_or_one (c.1+1)with e|e
 ·rw[e,Nat.add_zero]at a b
  rw[a.other (2*d+1) (by omega),b,f (2*d) (by omega),aa (by show ¬c.1+1<_;omega)]
 ·rw[e]at a b
  rw[a.other (2*d) (by omega),b,f (2*d+1) (by omega),af (by show _<c.1+1;omega)]
def Wr(L:List UInt8)(a:Nat)(S:List UInt8)(L':List UInt8)(c:Nat):Prop:=(c=0∧L'=iQ L a S)∨(c=6∧∃t,t<S.length∧L'=iQ L a (S.take t))
def qQ(L:List UInt8)(k:Nat)(L':List UInt8):Prop:=Only L k L'∧(aN L' k)[17]?=some 0
theorem acb{L:List UInt8}{k:Nat}(h:L[18*k+17]?=some 0):qQ L k L:=⟨Only.refl _ _,by rw[fT];exact h⟩
theorem af7{L L':List UInt8}{k c:Nat}(a:18*(k+1)<=L.length)(h:Wr L (18*k+17) [0] L' c):(c=0∧qQ L k L')∨(c=6∧ot L k L'):=by
 rcases h with⟨rfl,rfl⟩|⟨rfl,b,d,rfl⟩
 ·refine .inl ⟨rfl,mF a (by simp),?_⟩
  rw[mM a (by simp),jy (by rw[eR a];simp)];rfl
 ·obtain rfl:b=0:=by simpa using d
  rw[List.take_zero,pQ];exact .inr ⟨rfl,Only.refl _ _,.inl rfl⟩
def Bodied(L:List UInt8)(k n:Nat)(s:St)(L':List UInt8):Prop:=Only L k L'∧aN L' k=aY n s++[0]
theorem Bodied.torn{L L':List UInt8}{k n:Nat}{s:St}(h:Bodied L k n s L'):ot L k L':=⟨h.1,.inr ⟨0,by decide,by rw[h.2,List.getElem?_append_right (by rw[cJ];omega),cJ];rfl⟩⟩
theorem afE{L d L':List UInt8}{k n c:Nat}{s:St}(g:18*(k+1)<=L.length)(h0:qQ L k d)(h:Wr d (18*k) (aY n s) L' c):(c=0∧Bodied L k n s L')∨(c=6∧ot L k L'):=by
 have a:18*(k+1)<=d.length:=by rw[h0.1.len];exact g
 have i:=cJ n s;rcases h with⟨rfl,rfl⟩|⟨rfl,j,m,rfl⟩
 ·refine .inl ⟨rfl,h0.1.trans (mF (i:=0) a (by omega)),?_⟩
  have b:=mM (S:=aY n s) (i:=0) a (by omega);rw[Nat.add_zero]at b;rw[b];apply List.ext_getElem?;intro e;rw[jy (by rw[eR a];omega),List.getElem?_append,i]
  by_cases f:e<17
  ·rw[af (by omega),af f,Nat.sub_zero]
  ·rw[aa (by omega),aa f]
   by_cases l:e=17
   ·subst l;rw[h0.2];rfl
   ·rw[fT,aa (by omega),List.getElem?_eq_none (by simp;omega)]
 ·refine .inr ⟨rfl,h0.1.trans (mF (i:=0) a (by simp;omega)),.inr ⟨0,by decide,?_⟩⟩
  have b:=mM (S:=(aY n s).take j) (i:=0) a (by simp;omega);rw[Nat.add_zero]at b;rw[b,jy (by rw[eR a];simp;omega),aa (by simp;omega)];exact h0.2
theorem af6{L a L':List UInt8}{k n c:Nat}{s:St}(d:18*(k+1)<=L.length)(h1:Bodied L k n s a)(h:Wr a (18*k+17) [165] L' c):(c=0∧adz L k n s L')∨(c=6∧ot L k L'):=by
 have b:18*(k+1)<=a.length:=by rw[h1.1.len];exact d
 rcases h with⟨rfl,rfl⟩|⟨rfl,e,f,rfl⟩
 ·refine .inl ⟨rfl,h1.1.trans (mF b (by simp)),?_⟩
  rw[mM b (by simp),h1.2];unfold iQ;rw[jj (cJ n s)];simp[cJ]
 ·obtain rfl:e=0:=by simpa using f
  rw[List.take_zero,pQ];exact .inr ⟨rfl,h1.torn⟩
def jP(c:Nat):Nat:=if c%2=1 then(c / 2) ^^^ 3988292384 else c / 2
def eC(c:Nat):Nat->Nat
 | 0=>c
 | k+1=>jP (eC c k)
theorem us(x y:Nat):(x ^^^ y) / 2=x / 2 ^^^ y / 2:=by
 apply Nat.eq_of_testBit_eq;intro a;simp[Nat.testBit_xor,Nat.testBit_div_two]
theorem aee(c b k:Nat):jP (c ^^^ b / 2^k)=ks c b k ^^^ b / 2^(k+1):=by
 have a:b / 2^k / 2=b / 2^(k+1):=by rw[Nat.div_div_eq_div_mul,Nat.pow_succ]
 unfold jP ks
 split
 ·rw[us,a,Nat.xor_assoc,Nat.xor_assoc,Nat.xor_comm 3988292384]
 ·rw[us,a]
theorem vR(c b:Nat):∀k,eC (c ^^^ b) k=et c b k ^^^ b / 2^k
 | 0=>by simp[eC,et]
 | k+1=>by rw[eC,vR c b k,aee];rfl
theorem abY(c:Nat)(b:UInt8):eC (c ^^^ b.toNat) 8=et c b.toNat 8:=by
 rw[vR];have a:=UInt8.toNat_lt b;rw[show b.toNat / 2^8=0 by omega,Nat.xor_zero]
theorem acG{c:Nat}(h:c<4294967296):jP c<4294967296:=by
 unfold jP
 split
 ·exact Nat.xor_lt_two_pow (n:=32) (by omega) (by decide)
 ·omega
theorem qt{c:Nat}(h:c<4294967296):∀k,eC c k<4294967296
 | 0=>h
 | k+1=>acG (qt h k)
end Go.Proofs.YtaehdgemkafinaaGreatDoor
namespace Go.Proofs.YtaehdgemkafinaaGreatDoor
open Go.RowKit
open Go.Proofs.Tryz
def ev(A:Nat->Addr):Nat->Value
 | 0=>.nilIface
 | c+1=>.iface 318 (.pointer (some (A c)))
def gN:Nat->Nat
 | 0=>1
 | 1=>0
 | 2=>2
 | 3=>3
 | 4=>4
 | 5=>5
 | 6=>6
 | 7=>7
 | _=>8
structure Held9 (w:World) (A:Nat->Addr):Prop where
 var:∀i,i<9∧i≠6->w.cell? ⟨gN i,0,none⟩=some (.iface 318 (.pointer (some (A i))))
 ne:∀i j,i<9∧i≠6->j<9∧j≠6->i≠j->A i≠A j
 row:∀i,i<9∧i≠6->∃c t,w.heap[(A i).block]?=some (.cells c t (0,0))
theorem fW{w w':World}{b:Nat}{c:Array Value}{t:TypeId}{f:Nat×Nat}(d:Below w.heap.size w w')(h:w.heap[b]?=some (.cells c t f)):w'.heap[b]?=some (.cells c t f):=by
 have e:b<w.heap.size:=by
  rcases bU b w.heap.size with a|a
  ·exact a
  ·rw[Array.getElem?_eq_none a]at h;cases h
 rw[d.block b e];exact h
theorem Held9.later{w w':World}{A:Nat->Addr}(h:Held9 w A)(c:Below w.heap.size w w'):Held9 w' A:=
 ⟨fun a b=>ag c (h.var a b),h.ne,fun a b=>by obtain⟨d,e,f⟩:=h.row a b;exact⟨d,e,fW c f⟩⟩
theorem Held9.cells{w:World}{A:Nat->Addr}(h:Held9 w A):w.cell? ⟨1,0,none⟩=some (.iface 318 (.pointer (some (A 0))))∧w.cell? ⟨0,0,none⟩=some (.iface 318 (.pointer (some (A 1))))∧w.cell? ⟨2,0,none⟩=some (.iface 318 (.pointer (some (A 2))))∧w.cell? ⟨3,0,none⟩=some (.iface 318 (.pointer (some (A 3))))∧w.cell? ⟨4,0,none⟩=some (.iface 318 (.pointer (some (A 4))))∧w.cell? ⟨5,0,none⟩=some (.iface 318 (.pointer (some (A 5))))∧True∧w.cell? ⟨7,0,none⟩=some (.iface 318 (.pointer (some (A 7))))∧w.cell? ⟨8,0,none⟩=some (.iface 318 (.pointer (some (A 8)))):=
 ⟨h.var 0 (by decide),h.var 1 (by decide),h.var 2 (by decide),h.var 3 (by decide),h.var 4 (by decide),h.var 5 (by decide),trivial,h.var 7 (by decide),h.var 8 (by decide)⟩
structure Kept (S:Nat->Prop) (w w':World):Prop where
 os:w'.os=w.os
 tape:w'.tape=w.tape
 output:w'.output=w.output
 size:w.heap.size<=w'.heap.size
 block:∀k,k<w.heap.size->¬S k->w'.heap[k]?=w.heap[k]?
theorem Kept.refl(S:Nat->Prop)(w:World):Kept S w w:=⟨rfl,rfl,rfl,aj,fun _ _ _=>rfl⟩
theorem Kept.trans{S:Nat->Prop}{a b c:World}(h:Kept S a b)(k:Kept S b c):Kept S a c:=
 ⟨k.os.trans h.os,k.tape.trans h.tape,k.output.trans h.output,bc h.size k.size,fun d e f=>(k.block d (bm e h.size) f).trans (h.block d e f)⟩
theorem Kept.drew{S:Nat->Prop}{a w:World}(h:Kept S a w):Kept S a w.drew:=⟨h.os,h.tape,h.output,h.size,h.block⟩
theorem Kept.setCell{S:Nat->Prop}{a w:World}(h:Kept S a w){p:Addr}(c:S p.block)(b:Value):Kept S a (w.setCell p b):=
 h.trans ⟨rfl,rfl,rfl,by simp,fun d _ e=>Below.heap_setCell w p b d (fun f=>e (f ▸ c))⟩
theorem Kept.below{S:Nat->Prop}{B:Nat}{w0 w w':World}(h:Kept S w w')(d:B<=w.heap.size)(a:∀k,S k->B<=k)(b:Below B w0 w):Below B w0 w':=
 b.trans ⟨h.os,h.tape,h.output,h.size,fun k e=>h.block k (by omega) (fun c=>by have:=a k c;omega)⟩
theorem Kept.of_below{S:Nat->Prop}{w w':World}(h:Below w.heap.size w w'):Kept S w w':=⟨h.os,h.tape,h.output,h.size,fun a b _=>h.block a b⟩
theorem iP{w:World}{b:Nat}{o:Obj}(h:w.heap[b]?=some o):b<w.heap.size:=(Array.getElem?_eq_some_iff.1 h).1
theorem Kept.row{S:Nat->Prop}{w w':World}{b:Nat}{o:Obj}(h:Kept S w w')(a:w.heap[b]?=some o)(c:¬S b):w'.heap[b]?=some o:=(h.block b (iP a) c).trans a
def In1(r:Nat)(k:Nat):Prop:=k=r
theorem Kept.set1{r:Nat}{a w:World}(h:Kept (In1 r) a w)(i:Nat)(v:Value):Kept (In1 r) a (w.setCell ⟨r,i,none⟩ v):=h.setCell (show In1 r r from rfl) v
theorem Kept.mono{S T:Nat->Prop}{a b:World}(h:Kept S a b)(c:∀k,S k->T k):Kept T a b:=⟨h.os,h.tape,h.output,h.size,fun k d e=>h.block k d (fun f=>e (c k f))⟩
theorem eI(S:Nat->Prop)(w:World)(o:Obj):Kept S w (w.alloc o):=Kept.of_below (aF.alloc aj o)

/-! ### Bits of an int that is not below 0 -/
theorem iD(a:Nat)(b:a<9223372036854775808):(BitVec.ofInt 64 (a:Int)).toNat=a:=by
 rw[BitVec.ofInt_natCast,BitVec.toNat_ofNat];exact Nat.mod_eq_of_lt (by omega)
theorem gZ(a b:Nat)(c:a<9223372036854775808)(d:b<9223372036854775808):bits .and .i64 (a:Int) (b:Int)=((a &&& b:Nat):Int):=by
 have e:a &&& b<2^63:=Nat.and_lt_two_pow _ (by omega);show IntKind.i64.wrap ((BitVec.ofInt 64 (a:Int) &&& BitVec.ofInt 64 (b:Int)).toNat:Int)=_;rw[BitVec.toNat_and,iD a c,iD b d,IntKind.wrap_i64];omega
theorem ga(a b:Nat)(c:a<9223372036854775808)(d:b<9223372036854775808):bits .or .i64 (a:Int) (b:Int)=((a ||| b:Nat):Int):=by
 have e:a ||| b<2^63:=Nat.or_lt_two_pow (by omega) (by omega)
 show IntKind.i64.wrap ((BitVec.ofInt 64 (a:Int) ||| BitVec.ofInt 64 (b:Int)).toNat:Int)=_
 rw[BitVec.toNat_or,iD a c,iD b d,IntKind.wrap_i64];omega
def bit(s:Int)(k:Nat):Bool:=s.toNat.testBit k
def dx(zs:List Int)(s:Int):Nat->Int
 | 0=>0
 | k+1=>dx zs s k+if bit s k then zs.getD k 0 else 0
def ey(zs:List Int):Nat->Int
 | 0=>0
 | k+1=>ey zs k+zs.getD k 0
def tot(zs:List Int):Int:=ey zs zs.length
def eM(zs:List Int)(k:Nat):Prop:=∀i,i<k->0<=zs.getD i 0∧zs.getD i 0<=1000
def bT(zs:List Int):Nat:=
 if zs.length<1∨7<zs.length then 3 else if(zs.all fun n=>decide (0<=n∧n<=1000))=true then(if tot zs=0 then 4 else 0)else 2
def ii(zs:List Int)(s:Int):Nat:=if bT zs=0 then(if s<0∨2^zs.length<=s then 2 else 0)else bT zs
def bn(zs:List Int)(s:Int):Bool:=decide (tot zs<2*dx zs s zs.length)
theorem fw(zs:List Int)(k:Nat)(h:k<zs.length):zs.getD k 0=zs[k]:=by simp[h]
theorem pJ(zs:List Int):eM zs zs.length ↔ (zs.all fun n=>decide (0<=n∧n<=1000))=true:=by
 rw[List.all_eq_true];constructor
 ·intro c e d
  obtain⟨a,b,rfl⟩:=List.getElem_of_mem d;have:=c a b;rw[fw zs a b]at this
  simpa using this
 ·intro c a b
  have:=c zs[a] (List.getElem_mem b);rw[fw zs a b]
  simpa using this
theorem tu{zs:List Int}{k:Nat}(h:eM zs k)(h0:0<=zs.getD k 0)(h1:zs.getD k 0<=1000):eM zs (k+1):=by
 intro a b;rcases Nat.lt_succ_iff_lt_or_eq.1 b with c|rfl
 ·exact h a c
 ·exact⟨h0,h1⟩
theorem jx{zs:List Int}:∀{k:Nat},eM zs k->0<=ey zs k∧ey zs k<=1000*k
 | 0,_=>by simp[ey]
 | k+1,h=>by
  have c:=jx (k:=k) (fun a b=>h a (Nat.lt_succ_of_lt b));have:=h k (Nat.lt_succ_self k);simp only[ey];omega
theorem kL{zs:List Int}(s:Int):∀{k:Nat},eM zs k->0<=dx zs s k∧dx zs s k<=ey zs k
 | 0,_=>by simp[ey,dx]
 | k+1,h=>by
  have c:=kL s (k:=k) (fun a b=>h a (Nat.lt_succ_of_lt b));have:=h k (Nat.lt_succ_self k);simp only[ey,dx];split<;>omega
theorem rc{zs:List Int}(h:zs.length<1∨7<zs.length):bT zs=3:=by unfold bT;rw[af h]
theorem qj{zs:List Int}(h:¬(zs.length<1∨7<zs.length)){k:Nat}(a:k<zs.length)(c:zs.getD k 0<0∨1000<zs.getD k 0):bT zs=2:=by
 unfold bT;rw[aa h,aa];rw[<-pJ];intro b;have:=b k a;omega
theorem oN{zs:List Int}(h:¬(zs.length<1∨7<zs.length))(g:eM zs zs.length):bT zs=if tot zs=0 then 4 else 0:=by
 unfold bT;rw[aa h,af ((pJ zs).1 g)]
theorem bp{zs:List Int}(h:bT zs=0):1<=zs.length∧zs.length<=7∧eM zs zs.length∧tot zs≠0:=by
 unfold bT at h
 split at h
 ·cases h
 ·split at h
  ·split at h
   ·cases h
   ·refine⟨by omega,by omega,(pJ zs).2 (by assumption),by assumption⟩
  ·cases h
theorem jX{zs:List Int}{s:Int}(h:ii zs s=0):bT zs=0∧0<=s∧s<2^zs.length:=by
 unfold ii at h
 split at h
 ·split at h
  ·cases h
  ·exact⟨by assumption,by omega,by omega⟩
 ·exact absurd h (by assumption)
theorem rH{zs:List Int}{s:Int}(h:bT zs=0)(h0:0<=s)(h1:s<2^zs.length):ii zs s=0:=by
 unfold ii;rw[af h,aa (by omega)]
theorem dZ{n:Nat}(h:n<=7):(2:Int)^n<=128∧(1:Int)<=2^n:=by
 have:n=0∨n=1∨n=2∨n=3∨n=4∨n=5∨n=6∨n=7:=by omega
 rcases this with rfl|rfl|rfl|rfl|rfl|rfl|rfl|rfl<;>decide
theorem pz{n:Nat}(h:n<=30):(2:Int)^n<=1073741824∧(1:Int)<=2^n:=by
 have b:(2:Nat)^n<=2^30:=Nat.pow_le_pow_right (by decide) h;have c:1<=(2:Nat)^n:=Nat.one_le_two_pow;have a:((2:Int)^n)=(((2:Nat)^n:Nat):Int):=by simp
 rw[a];constructor
 ·have:(2:Nat)^30=1073741824:=by decide
  omega
 ·omega
theorem agx{s:Int}(k:Nat)(h0:0<=s)(h1:s<9223372036854775808):(bits BinOp.and IntKind.i64 (s / 2^k) 1==1)=bit s k:=by
 obtain⟨a,rfl⟩:=bD h0;have b:((a:Int) / 2^k)=((a / 2^k:Nat):Int):=by simp
 have c:a / 2^k<9223372036854775808:=Nat.lt_of_le_of_lt (Nat.div_le_self _ _) (by omega);rw[b,show(1:Int)=((1:Nat):Int)from rfl,gZ _ 1 c (by decide),Nat.and_one_is_mod];unfold bit;rw[aU,Nat.testBit_eq_decide_div_mod_eq,Bool.eq_iff_iff];simp;omega
theorem af2{n k:Nat}(h:k<n):bit (2^n-1) k=true:=by
 unfold bit;have a:((2:Int)^n-1).toNat=2^n-1:=by
  have b:1<=(2:Nat)^n:=Nat.one_le_two_pow;have a:((2:Int)^n)=(((2:Nat)^n:Nat):Int):=by simp
  rw[a];omega
 rw[a,Nat.testBit_two_pow_sub_one];simpa using h
theorem nH(zs:List Int){n:Nat}:∀{k:Nat},k<=n->dx zs (2^n-1) k=ey zs k
 | 0,_=>rfl
 | k+1,h=>by simp only[dx,ey];rw[nH zs (k:=k) (by omega),af2 (by omega)];simp
theorem gL(a:Nat)(b:a<4294967296):(BitVec.ofInt 32 (a:Int)).toNat=a:=by
 rw[BitVec.ofInt_natCast,BitVec.toNat_ofNat];exact Nat.mod_eq_of_lt (by omega)
theorem zB(a b:Nat)(c:a<4294967296)(d:b<4294967296):bits .xor .u32 (a:Int) (b:Int)=((a ^^^ b:Nat):Int):=by
 have e:a ^^^ b<2^32:=Nat.xor_lt_two_pow (by omega) (by omega);show IntKind.u32.wrap ((BitVec.ofInt 32 (a:Int) ^^^ BitVec.ofInt 32 (b:Int)).toNat:Int)=_;rw[BitVec.toNat_xor,gL a c,gL b d,IntKind.wrap_u32];omega
theorem agH(a:Nat)(b:a<4294967296):bits .and .u32 (a:Int) 1=((a%2:Nat):Int):=by
 have c:=gL 1 (by omega);show IntKind.u32.wrap ((BitVec.ofInt 32 (a:Int) &&& BitVec.ofInt 32 ((1:Nat):Int)).toNat:Int)=_;rw[BitVec.toNat_and,gL a b,c,IntKind.wrap_u32,Nat.and_one_is_mod];omega
def agN(w:World)(b o:Nat)(l:List UInt8):Prop:=∀j (h:j<l.length),w.cell? ⟨b,o+j,none⟩=some (.int .u8 ((l[j]'h).toNat:Int))
theorem ad3(s:ByteArray)(i:Nat)(a:Int)(h:i<s.size)(b:a=i)(w:World):(Instr.index 9 (.string s) (.int .i64 a)).run prog w=.ok (.int .u8 ((s[i]'h).toNat:Int)) w:=by
 subst b;rw[run_index_string w 9 s .i64 i underlying9,dif_pos ⟨by omega,by omega⟩];rfl
theorem agU(s:ByteArray)(w:World)(y:s.size<=1000):Calls prog 260 #[.string s] w fun e w'=>e=.returned (.int .u32 (io s.data.toList:Nat))∧w'=w:=by
 go_enter func260,ntmps260
 go_wp2
 go_loop [3,8] (fun c f=>∃a:Nat,a<=s.size∧f=iV a∧c=.int .u32 (ed 4294967295 (s.data.toList.take a):Nat)) (fun _ f=>s.size-(intOf f).toNat)
 case atStart=>exact⟨0,Nat.zero_le _,rfl,rfl⟩
 case round =>
  obtain⟨a,z,rfl,rfl⟩:=hrel;have h:ed 4294967295 (s.data.toList.take a)<4294967296:=kd _ (by decide)
  by_cases g:a<s.size
  ·have t:=ad3 s a (a:Int) g rfl
   have u:=UInt8.toNat_lt (s[a]'g);have j:Hid (ed 4294967295 (s.data.toList.take (a+1))=eC (ed 4294967295 (s.data.toList.take a) ^^^ (s[a]'g).toNat) 8):=by
    unfold Hid;rw[abY,<-kU,List.take_add_one,cG g,jC g];rfl
   generalize (s[a]'g).toNat=c at t u j;generalize ed 4294967295 (s.data.toList.take a)=d at h j ⊢;have A:=zB d c h (by omega);have v:d ^^^ c<4294967296:=Nat.xor_lt_two_pow (n:=32) h (by omega)
   go_wp2
   go_loop [3,17] (fun m f=>∃b:Nat,b<=8∧f=iV b∧m=.int .u32 (eC (d ^^^ c) b:Nat)) (fun _ f=>8-(intOf f).toNat)
   case atStart=>exact⟨0,Nat.zero_le _,rfl,rfl⟩
   case round =>
    obtain⟨b,B,rfl,rfl⟩:=hrel;have n:eC (d ^^^ c) b<4294967296:=qt v b;have k:Hid (eC (d ^^^ c) (b+1)=jP (eC (d ^^^ c) b)):=rfl;have l:=agH _ n;have o:=zB (eC (d ^^^ c) b / 2) 3988292384 (by omega) (by decide);have p:=hid o;clear o;have q:eC (d ^^^ c) b%2=0∨eC (d ^^^ c) b%2=1:=by omega
    by_cases C:b<8
    ·generalize eC (d ^^^ c) b=m at n k l p q ⊢
     rcases q with i|i
     ·rw[i]at l
      go_wp2
      go_round
      case rel=>exact⟨b+1,by omega,by go_num,eF (by rw[k.out,jP,aa (by omega)];omega)⟩
      case measure=>simp[intOf];omega
     ·rw[i]at l
      go_wp2
      go_round
      case rel=>exact⟨b+1,by omega,by go_num,eF (by rw[k.out,jP,af i];exact p)⟩
      case measure=>simp[intOf];omega
    ·obtain rfl:b=8:=by omega
     go_wp2
     go_round
     case rel=>exact⟨a+1,by omega,by go_num,eF (by rw[j.out])⟩
     case measure=>simp[intOf];omega
  ·obtain rfl:a=s.size:=by omega
   have r:s.data.toList.take s.size=s.data.toList:=List.take_length;rw[r]at h;have x:Hid (bits BinOp.xor IntKind.u32 IntKind.u32.max ((ed 4294967295 s.data.toList:Nat):Int)=((io s.data.toList:Nat):Int)):=by
    unfold Hid;rw[show IntKind.u32.max=((4294967295:Nat):Int) by decide,zB 4294967295 _ (by decide) h,Nat.xor_comm];rfl
   rw[r]
   go_wp2
   go_ret
   exact⟨fJ x,rfl⟩
theorem jJ{g:Nat}{w w':World}{a:Addr}{v:Value}(h:Kept (In1 g) w w')(b:w.cell? a=some v)(c:a.block≠g):w'.cell? a=some v:=by
 rw[World.cell?_of_block (h.block _ (bY b) (fun d=>c d))];exact b
theorem zy{g b:Nat}{w w':World}{i:Nat}{o:Obj}(h:Kept (In1 g) w w')(a:w.heap[b]?=some o)(c:b≠g):w'.frozen? ⟨b,i,none⟩=w.frozen? ⟨b,i,none⟩:=World.frozen?_of_block (h.block b (ah a) (fun d=>c d))
theorem ab6(a c d e f g:Int)(b:Bool)(h:decide (a=e∧c=f∧d=g)=b)(w:World):(binOp .eql 80 (.agg #[.int .i64 a,.int .i64 c,.int .i64 d]) (.agg #[.int .i64 e,.int .i64 f,.int .i64 g])).run prog w=.ok (.bool b) w:=by
 subst h
 by_cases i:a=e<;>by_cases j:c=f<;>by_cases k:d=g
 all_goals
  simp only[i,j,k,and_true,and_self,and_false,decide_true,decide_false]
  go_simp
end Go.Proofs.YtaehdgemkafinaaGreatDoor
