/-
  On the way to SPlaysProof: O1 O9 Plain2 Plain4 W1 W2 W3 W4 W5 O6A HI Laid.
-/
import Derived.Test.YtaehdgemkafinaaGreatDoorBx1
import Derived.Test.YtaehdgemkafinaaGreatDoorShl
import Derived.Test.YtaehdgemkafinaaGreatDoorRows
import Derived.Lib.ItoaNum
import Derived.Lib.Split
import Derived.Lib.ItoaMem
import Derived.Lib.AppendIntMem
import Derived.Laws.AppendOwnNone
import Derived.RegionTactic
import Derived.ProofKit
import Derived.LaidLaws
import Derived.LaidMore
import Derived.LaidSub
import Derived.LaidHandle
import Derived.MakeChecks
set_option maxHeartbeats 8000000
set_option maxRecDepth 100000
namespace Go.Proofs.YtaehdgemkafinaaGreatDoor
open Go.RowKit
open Go.Proofs.Tryz
abbrev Bs:=List UInt8
def dA:Bs->Nat->Option Nat
 | [],n=>some n
 | c::r,n=>if c.toNat<48∨57<c.toNat then none else dA r (10*n+(c.toNat-48))
def eX(k:Nat)(x:Bs):Option Nat:=if x=[]∨k<x.length∨(1<x.length∧x.getD 0 0=48)then none else dA x 0
def eU(c:UInt8):Nat:=if c=78 then 5 else 1
def dD(f:Bs):Nat->List Bs->Option (List Int)
 | _,[]=>some []
 | i,x::r=>match eX (eU (f.getD (min i (f.length-1)) 0)) x with
  | none=>none
  | some n=>(dD f (i+1) r).map (fun l=>(n:Int)::l)
def dK(f:Bs)(eD:Bool)(ws:List Bs):Option (List Int):=if ws.length<f.length∨(f.length<ws.length∧eD=false)then none else dD f 0 ws
theorem fV:∀(x:Bs) (c:UInt8) (n m:Nat),dA x n=some m->dA (x++[c]) n=(if c.toNat<48∨57<c.toNat then none else some (10*m+(c.toNat-48)))
 | [],c,n,m,h=>by obtain rfl:n=m:=bF h;rfl
 | a::x,c,n,m,h=>by
  unfold dA at h;rw[List.cons_append,dA]
  split at h
  ·cases h
  ·rw[aa ‹_›];exact fV x c _ m h
theorem jQ:∀(x y:Bs) (n:Nat),dA x n=none->dA (x++y) n=none
 | [],y,n,h=>by cases h
 | a::x,y,n,h=>by
  unfold dA at h;rw[List.cons_append,dA]
  split
  ·rfl
  ·rw[aa ‹_›]at h;exact jQ x y _ h
theorem ml:∀(x:Bs) (n m:Nat),dA x n=some m->m<(n+1)*10^x.length
 | [],n,m,h=>by obtain rfl:n=m:=bF h;simp
 | a::x,n,m,h=>by
  unfold dA at h
  split at h
  ·cases h
  ·have b:=ml x _ m h
   have c:10*n+(a.toNat-48)+1<=(n+1)*10:=by omega
   calc m<(10*n+(a.toNat-48)+1)*10^x.length:=b
    _<=((n+1)*10)*10^x.length:=Nat.mul_le_mul_right _ c
    _=(n+1)*10^(a::x).length:=by rw[bq,Nat.pow_succ,Nat.mul_assoc,Nat.mul_comm 10]
theorem ago{k:Nat}{x:Bs}{n:Nat}(h:eX k x=some n):n<10^k:=by
 unfold eX at h
 split at h
 ·cases h
 ·rename_i b
  have c:=ml x 0 n h;have a:x.length<=k:=by omega
  have d:=Nat.pow_le_pow_right (n:=10) (by omega) a;omega
theorem qd(c:UInt8):eU c<=5:=by unfold eU;split<;>omega
theorem zg{c:UInt8}{x:Bs}{n:Nat}(h:eX (eU c) x=some n):n<100000:=by
 have a:=ago h;have b:=Nat.pow_le_pow_right (n:=10) (by omega) (qd c);omega
theorem iX{f:Bs}:∀{c:List Bs} {i:Nat} {l:List Int},dD f i c=some l->l.length=c.length∧∀y,y∈l->0<=y∧y<100000
 | [],i,l,h=>by obtain rfl:[]=l:=bF h;exact⟨rfl,fun y h=>by cases h⟩
 | x::d,i,l,h=>by
  unfold dD at h
  split at h
  ·cases h
  ·rename_i e g
   cases a:dD f (i+1) d with
   | none=>rw[a]at h;cases h
   | some j =>
    rw[a]at h;obtain rfl:(e:Int)::j=l:=bF h;obtain⟨k,m⟩:=iX a;have n:=zg g;refine⟨by simp[k],fun y b=>?_⟩;rcases List.mem_cons.1 b with rfl|b
    ·omega
    ·exact m y b
theorem lM{f:Bs}:∀(b:List Bs) (i k:Nat) (l:List Int) (x:Bs),dD f i (b.take k)=some l->b[k]?=some x ->
  dD f i (b.take (k+1))=match eX (eU (f.getD (min (i+k) (f.length-1)) 0)) x with|none=>none|some n=>some (l++[(n:Int)])
 | [],i,k,l,x,h,a=>by simp at a
 | y::r,i,0,l,x,h,a=>by
  obtain rfl:y=x:=by simpa using a
  obtain rfl:[]=l:=by simpa [dD]using h
  simp only[List.take_succ_cons,List.take_zero,Nat.add_zero];unfold dD
  split<;>simp_all [dD]
 | y::r,i,k+1,l,x,h,a=>by
  rw[List.take_succ_cons]at h ⊢;unfold dD at h ⊢
  cases d:eX (eU (f.getD (min i (f.length-1)) 0)) y with
  | none=>rw[d]at h;cases h
  | some n =>
   rw[d]at h;simp only at h ⊢
   cases c:dD f (i+1) (r.take k)with
   | none=>rw[c]at h;cases h
   | some e =>
    rw[c]at h;obtain rfl:(n:Int)::e=l:=bF h;have:=lM r (i+1) k e x c (by simpa using a);rw[this,show i+1+k=i+(k+1) by omega]
    split<;>simp
theorem mI{f:Bs}:∀(a:List Bs) (i k:Nat),dD f i (a.take k)=none->dD f i a=none
 | [],i,k,h=>by simpa using h
 | y::r,i,0,h=>by simp[dD]at h
 | y::r,i,k+1,h=>by
  rw[List.take_succ_cons]at h;unfold dD at h ⊢
  cases c:eX (eU (f.getD (min i (f.length-1)) 0)) y with
  | none=>rfl
  | some n =>
   rw[c]at h;simp only at h ⊢
   cases b:dD f (i+1) (r.take k)with
   | none=>rw[mI r (i+1) k b];rfl
   | some d=>rw[b]at h;cases h
abbrev dp:ByteArray:=⟨#[32]⟩
abbrev bB(l:Bs):ByteArray:=⟨l.toArray⟩
def cB(s:ByteArray):List ByteArray:=Lib.splitB dp 0 (Lib.countB s dp) s
theorem ad6:(prog.info? 9).map (fun i=>(i.zero,i.size,i.bytes))=some (some (.string ByteArray.empty),1,16):=by kernel_rfl
theorem index_one(s:ByteArray)(w:World):Calls prog 208 #[.string s,.string dp] w fun e w'=>e=.returned (.int .i64 (Lib.indexB s dp))∧w'=w:=by
 have:=Any.strings_Index_one { Tryz.lays146 with } s 32 w;refine this.mono fun e w' ⟨a,b⟩=>⟨?_,b⟩
 rw[a];show _=Ending.returned (iV (Lib.index s.data.toList [32]));rw[Lib.index_one]
theorem count_one(s:ByteArray)(w:World):Calls prog 207 #[.string s,.string dp] w fun e w'=>e=.returned (.int .i64 (Lib.countB s dp))∧w'=w:=by
 have:=Any.strings_Count_one { Tryz.lays146 with } s 32 w;refine this.mono fun e w' ⟨a,b⟩=>⟨?_,b⟩
 rw[a];show _=Ending.returned (iV ((Lib.count s.data.toList [32]:Nat):Int));rw[Lib.count_one];rfl
theorem sx(s:ByteArray)(w:World)(h:s.size<4294967281):Calls prog 135 #[.string s,.string dp] w fun e w'=>e=.returned (.slice (some ⟨w.heap.size,0,none⟩) (cB s).length (cB s).length)∧w'=w.alloc (.cells ((cB s).map Value.string).toArray 9):=by
 have c:1<=dp.size:=by decide
 have i:=Lib.countB_le dp c s.size s aj;have b:=Lib.splitB_all dp c 0 _ s rfl;have a:=Any.strings_genSplit_core { Tryz.lays146 with } ad6 s dp 0 (-1) (Lib.countB s dp+1) w h c (Nat.zero_le _) (fun j a _=>index_one j _) (count_one s w) (by decide) (by decide) (by rw[af (by decide)];omega);rw[Nat.add_sub_cancel,b]at a;have d:Lib.cellsOf (Lib.splitB dp 0 (Lib.countB s dp) s) (Lib.countB s dp+1)=((Lib.splitB dp 0 (Lib.countB s dp) s).map Value.string).toArray:=by rw[<-b];exact Lib.cellsOf_full _
 rw[d]at a;have f:(cB s).length=Lib.countB s dp+1:=b;rw[f];have k:Hid (Calls prog 176 #[.string s,.string dp,iV 0,iV (-1)] w fun e w'=>e=.returned (.slice (some ⟨w.heap.size,0,none⟩) (Lib.countB s dp+1) (Lib.countB s dp+1))∧w'=w.alloc (.cells ((cB s).map Value.string).toArray 9)):=a;clear a d i b f
 go_enter func135,ntmps135
 go_wp2_with fail
 refine k.mono ?_;rintro e w' ⟨rfl,g⟩;have l:=hid g;clear g
 go_wp2_with fail
 go_ret
 exact⟨rfl,l⟩
theorem tP(b o c:Nat)(xs:List ByteArray)(a:ByteArray)(w:World)(d:∀(j:Nat) x,xs[j]?=some x->w.cell? ⟨b,o+j,none⟩=some (.string x))(f:b<w.heap.size)(i:xs.length<=100000)(g:xs.length<=c)(h:(Lib.join (xs.map (·.data.toList)) a.data.toList).length<=140737488355328):Calls prog 131 #[.slice (some ⟨b,o,none⟩) xs.length c,.string a] w fun e w'=>e=.returned (.string ⟨(Lib.join (xs.map (·.data.toList)) a.data.toList).toArray⟩)∧Below w.heap.size w w':=
 Any.strings_Join Tryz.lays156 Tryz.Builder_Extra_156 b o c xs a w d f (by omega) g h
def TabO(w:World):Prop:=∃t fr,w.heap[10]?=some (.cells (Lib.pow10Tab.map fun z=>Value.int .u64 z).toArray t fr)
theorem TabO.later{w w':World}(h:TabO w)(a:Below w.heap.size w w'):TabO w':=by
 obtain⟨b,c,h⟩:=h;exact⟨b,c,(a.block _ (ah h)).trans h⟩
theorem jk(n:Nat)(w:World)(ht:TabO w)(h1:n<=9223372036854775807):Calls prog 64 #[.int .i64 (n:Int)] w fun e w'=>e=.returned (.string (bB (Lib.decDigits n)))∧Below w.heap.size w w':=by
 obtain⟨g,h,ht⟩:=ht;refine(Any.strconv_Itoa Tryz.laysM171 (n:Int) (by omega) (by omega) w ?_).mono ?_
 ·have b:∀a,prog.globalNamed a=some 10->Lib.TabIs prog w a .u64 Lib.pow10Tab:=fun a c=>by
   unfold Lib.TabIs World.var?;rw[c];simp only[Option.bind_some,ht]
  exact b _ (by kernel_rfl)
 ·rintro e w' ⟨rfl,d,f,rfl⟩
  refine⟨?_,Lib.below_grow _ w aj d f⟩;rw[Lib.itoa_nonneg]
theorem fG(n:Nat):((2:Int)^n)=(((2:Nat)^n:Nat):Int):=by simp
theorem ajo{n:Nat}{a:Int}(h0:0<=a)(h1:a<2^n){k:Nat}(c:k<n):bit (2^n-1-a) k=!bit a k:=by
 obtain⟨b,rfl⟩:=bD h0;rw[fG]at h1;unfold bit;have d:((2:Int)^n-1-(b:Int)).toNat=2^n-(b+1):=by rw[fG];omega
 rw[d,Nat.testBit_two_pow_sub_succ (by omega)];simp[c]
theorem ahW{a b:Int}(h0:0<=a)(h1:a<128)(c:0<=b)(f:b<128)(k:Nat):bit (bits .or .i64 a b) k=(bit a k||bit b k):=by
 obtain⟨d,rfl⟩:=bD h0;obtain⟨e,rfl⟩:=bD c;rw[ga d e (by omega) (by omega)];unfold bit;simp[Nat.testBit_or]
theorem adS{a b:Int}(h0:0<=a)(h1:a<128)(e:0<=b)(g:b<128)(h:bits .and .i64 a b=0)(k:Nat):(bit a k&&bit b k)=false:=by
 obtain⟨c,rfl⟩:=bD h0;obtain⟨d,rfl⟩:=bD e;rw[gZ c d (by omega) (by omega)]at h;have f:c &&& d=0:=by omega
 unfold bit;rw[aU,aU,<-Nat.testBit_and,f,Nat.zero_testBit]
theorem vO{zs:List Int}{a b:Int}(h0:0<=a)(h1:a<128)(c:0<=b)(d:b<128):∀{k:Nat},eM zs k->dx zs a k<=dx zs (bits .or .i64 a b) k
 | 0,_=>by simp[dx]
 | k+1,h=>by
  have f:=vO h0 h1 c d (k:=k) (fun e g=>h e (by omega));have:=h k (by omega);simp only[dx];rw[ahW h0 h1 c d];generalize zs.getD k 0=i at *
  cases bit a k<;>cases bit b k<;>simp<;>omega
theorem pg{zs:List Int}{a b:Int}(h0:0<=a)(h1:a<128)(c:0<=b)(d:b<128)(e:bits .and .i64 a b=0):∀{k:Nat},eM zs k->dx zs a k+dx zs b k<=ey zs k
 | 0,_=>by simp[dx,ey]
 | k+1,h=>by
  have i:=pg h0 h1 c d e (k:=k) (fun f j=>h f (by omega));have:=h k (by omega);have g:=adS h0 h1 c d e k;simp only[dx,ey]
  revert g
  generalize zs.getD k 0=l at *
  cases bit a k<;>cases bit b k<;>simp<;>omega
theorem ai6{n:Nat}{a b:Int}(e:n<=7)(h0:0<=a)(h1:a<2^n)(f:0<=b)(g:b<2^n):0<=bits .or .i64 a b∧bits .or .i64 a b<2^n:=by
 have h:=(dZ e).1;obtain⟨c,rfl⟩:=bD h0;obtain⟨d,rfl⟩:=bD f;rw[fG]at h1 g h ⊢;have:c ||| d<2^n:=Nat.or_lt_two_pow (by omega) (by omega)
 rw[ga c d (by omega) (by omega)];omega
theorem oB{zs:List Int}{a:Int}(h:ii zs a=0):0<=a∧a<128:=by
 obtain⟨b,c,d⟩:=jX h;have:=(dZ (bp b).2.1).1;omega
theorem meet{zs:List Int}{a b:Int}(h:ii zs a=0)(g:ii zs b=0)(x:bn zs a=true)(y:bn zs b=true):(bits .and .i64 a b==0)=false:=by
 rw[aiX];intro e;have c:=oB h;have d:=oB g;have:=pg c.1 c.2 d.1 d.2 e (bp (jX h).1).2.2.1;unfold bn tot at x y;have f:=cK x;have i:=cK y;omega
theorem eD{zs:List Int}{a b:Int}(h:ii zs a=0)(g:ii zs b=0)(x:bn zs a=true):bn zs (bits .or .i64 a b)=true:=by
 have c:=oB h;have d:=oB g;have:=vO c.1 c.2 d.1 d.2 (bp (jX h).1).2.2.1;unfold bn at x ⊢;have e:=cK x;exact bo (by omega)
def ahJ(s p:Nat):Bool:=
 let rest:Int:=((s / 2^p*2^p:Nat):Int)
 (rest==0)||(List.range 7).any fun q=>decide (p<=q)&&(bits .and .i64 rest (-rest)==2^q)&&(bits .and .i64 rest (rest-1)==((s / 2^(q+1)*2^(q+1):Nat):Int))&&(bits .andNot .i64 (s:Int) (2^q)==(s:Int)-2^q)&&bit s q&&decide (s / 2^(q+1)*2^(q+1)<s / 2^p*2^p)&&(List.range q).all fun i=>decide (i<p) || !bit s i
theorem ahL:((List.range 128).all fun s=>(List.range 8).all fun p=>ahJ s p)=true:=by decide +kernel
theorem low{s p:Nat}(b:s<128)(c:p<8)(h0:((s / 2^p*2^p:Nat):Int)≠0):∃q,p<=q∧q<7∧bits .and .i64 ((s / 2^p*2^p:Nat):Int) (-((s / 2^p*2^p:Nat):Int))=2^q∧bits .and .i64 ((s / 2^p*2^p:Nat):Int) (((s / 2^p*2^p:Nat):Int)-1)=((s / 2^(q+1)*2^(q+1):Nat):Int)∧bits .andNot .i64 (s:Int) (2^q)=(s:Int)-2^q∧bit s q=true∧s / 2^(q+1)*2^(q+1)<s / 2^p*2^p∧∀i,p<=i->i<q->bit s i=false:=by
 have a:=List.all_eq_true.1 (List.all_eq_true.1 ahL s (List.mem_range.2 b)) p (List.mem_range.2 c);unfold ahJ at a;rw[Bool.or_eq_true]at a;rcases a with a|a
 ·exact absurd (by simpa using a) h0
 ·obtain⟨q,d,a⟩:=List.any_eq_true.1 a
  simp only[Bool.and_eq_true,decide_eq_true_eq,beq_iff_eq]at a;obtain⟨⟨⟨⟨⟨⟨e,f⟩,g⟩,h⟩,j⟩,k⟩,l⟩:=a;refine⟨q,e,List.mem_range.1 d,f,g,h,j,k,fun i n m=>?_⟩;have:=List.all_eq_true.1 l i (List.mem_range.2 m);simp at this;rcases this with a|a
  ·omega
  ·exact a
theorem agb{s:Int}(k:Nat)(h0:0<=s):(s / 2^k%2==1)=bit s k:=by
 obtain⟨a,rfl⟩:=bD h0;unfold bit;rw[aU,Nat.testBit_eq_decide_div_mod_eq,Bool.eq_iff_iff];have b:((a:Int) / 2^k)=((a / 2^k:Nat):Int):=by simp
 rw[b];simp;omega
theorem vY(zs:List Int)(s:Int):decide (tot zs-dx zs s zs.length<dx zs s zs.length)=bn zs s:=by
 unfold bn;exact decide_eq_decide.2 (by omega)
theorem rE(n:Nat)(w:World)(h:n<=30):Calls prog 147 #[.int .i64 n] w fun e w'=>e=.returned (.int .i64 (2^n))∧w'=w:=by
 go_enter func147,ntmps147
 go_wp2
 go_loop [3,4] (fun c b=>∃a:Nat,a<=n∧b=iV a∧c=iV (2^a)) (fun _ b=>n-(intOf b).toNat)
 case atStart=>exact⟨0,Nat.zero_le _,rfl,rfl⟩
 case round =>
  obtain⟨a,f,rfl,rfl⟩:=hrel;have g:=pz (n:=a) (by omega);have d:Hid ((2:Int)^(a+1)=2*2^a):=by unfold Hid;rw[Int.pow_succ];omega
  by_cases i:a<n
  ·go_wp2
   go_round
   case rel=>exact⟨a+1,by omega,by go_num,eF d.out.symm⟩
   case measure=>simp[intOf];omega
  ·go_wp2
   go_ret
   exact⟨fJ (by rw[show a=n by omega]),rfl⟩
theorem iL(a:Option Addr)(len cap:Nat)(w:World)(h:len<=30):Calls prog 266 #[.slice a len cap] w fun e w'=>e=.returned (.int .i64 (2^len-1))∧w'=w:=by
 have b:=pz h
 go_enter func266,ntmps266
 go_wp2
 go_ret
 exact⟨fJ (by omega),rfl⟩
theorem qF(p:Addr)(b f cap:Nat)(zs:List Int)(set:Int)(w:World)(n:zs.length<=7)(c:eM zs zs.length)(h0:0<=set)(h1:set<128)(o:w.cell? p=some (.slice (some ⟨b,f,none⟩) zs.length cap))(g:∀i,i<zs.length->w.cell? ⟨b,f+i,none⟩=some (.int .i64 (zs.getD i 0))):Calls prog 269 #[.int .i64 set,.pointer (some p)] w fun e w'=>e=.returned (.int .i64 (dx zs set zs.length))∧w'=w:=by
 go_enter func269,ntmps269
 go_wp2
 go_loop [4,9] (fun h i=>∃a:Nat,a<=zs.length∧i=iV a∧h=iV (dx zs set a)) (fun _ i=>zs.length-(intOf i).toNat)
 case atStart=>exact⟨0,Nat.zero_le _,rfl,rfl⟩
 case round =>
  obtain⟨a,q,rfl,rfl⟩:=hrel
  by_cases d:a<zs.length
  ·have r:=g a d
   have s:=kL set (k:=a) (zs:=zs) (fun i j=>c i (by omega));have t:=jx (k:=a) (zs:=zs) (fun i j=>c i (by omega));have k:=c a d;have l:Hid ((bits BinOp.and IntKind.i64 (set / 2^a) 1==1)=bit set a):=agx a h0 (by omega);have m:Hid (dx zs set (a+1)=dx zs set a+if bit set a then zs.getD a 0 else 0):=rfl;rw[fw zs a d]at k
   go_wp2
   all_goals
    go_round
    case rel=>exact⟨a+1,by omega,by go_num,eF (by rw[m.out,<-l.out];simp[*])⟩
    case measure=>simp[intOf];omega
  ·go_wp2
   go_ret
   exact⟨fJ (by rw[show a=zs.length by omega]),rfl⟩
theorem abg(a:Option Addr)(len cap:Nat)(w:World):Calls prog 267 #[.slice a len cap] w fun e w'=>e=.returned (.func (.func 269) #[] #[.pointer (some ⟨w.heap.size,0,none⟩)])∧w'=w.alloc (.cells #[.slice a len cap] 34):=by
 have c:∀(b:Fn) (first cap:Array Value) (w:World),(Instr.makeFunc b first cap).run prog w=.ok (.func b first cap) w:=fun _ _ _ _=>rfl
 go_enter func267,ntmps267
 go_wp2
 go_ret
 exact⟨rfl,rfl⟩
theorem aal(b a cap:Nat)(zs:List Int)(w:World)(f:zs.length<=7)(j:eM zs zs.length)(g:∀i,i<zs.length->w.cell? ⟨b,a+i,none⟩=some (.int .i64 (zs.getD i 0))):Calls prog 262 #[.slice (some ⟨b,a,none⟩) zs.length cap] w fun e w'=>e=.returned (.func (.func 268) #[] #[.pointer (some ⟨w.heap.size+1,0,none⟩),.pointer (some ⟨w.heap.size+2,0,none⟩)])∧w'=(((w.alloc (.cells #[.slice (some ⟨b,a,none⟩) zs.length cap] 34)).alloc (.cells #[.func (.func 269) #[] #[.pointer (some ⟨w.heap.size,0,none⟩)]] 71)).alloc (.cells #[.int .i64 (tot zs)] 3)).drew:=by
 have n:∀(h:Fn) (first cap:Array Value) (w:World),(Instr.makeFunc h first cap).run prog w=.ok (.func h first cap) w:=fun _ _ _ _=>rfl
 have o:=dZ f;have k:Hid (dx zs (2^zs.length-1) zs.length=tot zs):=nH zs aj;have l:∀(c:World),bW w c->∀i,i<zs.length->c.cell? ⟨b,a+i,none⟩=some (iV (zs.getD i 0)):=fun c m i d=>ag m (g i d)
 clear g
 go_enter func262,ntmps262
 go_wp2_with (go_at_call 267;refine(abg _ _ _ _).mono ?_;rintro e w' ⟨rfl,rfl⟩)
 go_region_held3 (fun w'=>w'.cell? ⟨w.heap.size+1,0,none⟩=some (.func (.func 269) #[] #[pV w.heap.size])) (go_keep)
  (first|(go_at_call 266;refine(iL _ _ _ _ (by omega)).mono ?_;rintro e w' ⟨rfl,rfl⟩)|(go_at_call 269;refine(qF ⟨w.heap.size,0,none⟩ b a cap zs _ _ f j (by omega) (by omega) (by first|(simp;done)|exact bM _ (by simp)) (fun i d=>l _ (by repeat(first|exact Below.refl _ _|refine Below.drew ?_|refine Below.alloc ?_ (by simp;try omega) _)) i d)).mono ?_;rw[k.out];rintro e w' ⟨rfl,rfl⟩))
 all_goals go_wp2
 all_goals go_ret
 all_goals exact⟨rfl,rfl⟩
theorem wD(p q r:Addr)(b a cap:Nat)(zs:List Int)(set:Int)(w:World)(h:zs.length<=7)(c:eM zs zs.length)(h0:0<=set)(h1:set<128)(j:w.cell? p=some (.func (.func 269) #[] #[.pointer (some r)]))(k:w.cell? q=some (.int .i64 (tot zs)))(d:w.cell? r=some (.slice (some ⟨b,a,none⟩) zs.length cap))(f:∀i,i<zs.length->w.cell? ⟨b,a+i,none⟩=some (.int .i64 (zs.getD i 0))):Calls prog 268 #[.int .i64 set,.pointer (some p),.pointer (some q)] w fun e w'=>e=.returned (.bool (bn zs set))∧∃n,w'=w.drewN n:=by
 have l:=kL set (k:=zs.length) (zs:=zs) c;have m:=jx (k:=zs.length) (zs:=zs) c
 go_enter func268,ntmps268
 go_wp2_with fail
 go_quiet ((go_at_call 269;exact Calls.quiet_of_same (qF r b a cap zs set _ h c h0 h1 (by first|exact d|simpa using d) (fun i g=>by first|exact f i g|simpa using f i g))))
 go_wp2
 go_ret
 exact⟨rfl,_,rfl⟩
def gW:Nat->Nat
 | 1=>0
 | 2=>2
 | _=>3
def Held3(w:World)(A:Nat->Addr):Prop:=∀i,1<=i->i<=3->w.cell? ⟨gW i,0,none⟩=some (.iface 318 (.pointer (some (A i))))
theorem wW(A:Nat->Addr)(a:Option Addr)(len cap:Nat)(w:World)(b:len<=maxLen)(h:len<1∨7<len)(c:Held3 w A):Calls prog 153 #[.slice a len cap] w fun e w'=>e=.returned (ev A 3)∧w'=w:=by
 have d:w.cell? ⟨2,0,none⟩=some (.iface 318 (.pointer (some (A 2)))):=c 2 (by omega) (by omega);unfold maxLen at b;rcases h with h|h
 ·have:len=0:=by omega
  subst this
  go_enter func153,ntmps153
  go_wp2
  go_ret
  exact⟨rfl,rfl⟩
 ·go_enter func153,ntmps153
  go_wp2
  go_ret
  exact⟨rfl,rfl⟩
theorem aeZ(A:Nat->Addr)(b o cap:Nat)(zs:List Int)(w:World)(h:¬(zs.length<1∨7<zs.length))(p:Held3 w A)(g:∀i,i<zs.length->w.cell? ⟨b,o+i,none⟩=some (.int .i64 (zs.getD i 0))):Calls prog 153 #[.slice (some ⟨b,o,none⟩) zs.length cap] w fun e w'=>e=.returned (ev A (bT zs))∧w'=w:=by
 have C:w.cell? ⟨0,0,none⟩=some (.iface 318 (.pointer (some (A 1)))):=p 1 (by omega) (by omega);have D:w.cell? ⟨3,0,none⟩=some (.iface 318 (.pointer (some (A 3)))):=p 3 (by omega) (by omega);have j:∀a,a<zs.length->(zs.getD a 0<0∨1000<zs.getD a 0)->Hid (ev A (bT zs)=.iface 318 (.pointer (some (A 1)))):=fun a q s=>by unfold Hid;rw[qj h q s];rfl
 have k:eM zs zs.length->tot zs=0->Hid (ev A (bT zs)=.iface 318 (.pointer (some (A 3)))):=fun c e=>by unfold Hid;rw[oN h c,af e];rfl
 have l:eM zs zs.length->¬tot zs=0->Hid (ev A (bT zs)=.nilIface):=fun c e=>by unfold Hid;rw[oN h c,aa e];rfl
 have E:¬zs.length<1:=fun c=>h (.inl c)
 have F:¬7<zs.length:=fun c=>h (.inr c)
 clear h
 go_enter func153,ntmps153
 go_wp2
 go_loop [3,17] (fun t i=>∃a:Nat,a<=zs.length∧eM zs a∧i=iV a∧t=iV (ey zs a)) (fun _ i=>zs.length-(intOf i).toNat)
 case atStart=>exact⟨0,Nat.zero_le _,fun i u=>absurd u (by omega),rfl,rfl⟩
 case round =>
  obtain⟨a,q,d,rfl,rfl⟩:=hrel;have G:=jx d
  by_cases f:a<zs.length
  ·have v:=g a f
   have m:=j a f;have x:Hid (ey zs (a+1)=ey zs a+zs.getD a 0):=rfl;have r:0<=zs.getD a 0->zs.getD a 0<=1000->eM zs (a+1):=tu d;clear j k l g;rw[fw zs a f]at m r v
   go_wp2
   ·go_ret
    exact⟨congrArg Ending.returned (m (by omega)).out.symm,rfl⟩
   ·go_round
    case rel=>exact⟨a+1,by omega,r (by omega) (by omega),by go_num,eF (by rw[x.out,fw zs a f])⟩
    case measure=>simp[intOf];omega
   ·go_ret
    exact⟨congrArg Ending.returned (m (by omega)).out.symm,rfl⟩
  ·have y:a=zs.length:=by omega
   subst y;have z:=k d;have B:=l d;clear j k l g
   go_wp2
   ·have n:(ey zs zs.length==0)=true:=by assumption
    go_ret
    exact⟨congrArg Ending.returned (z (show ey zs zs.length=0 by simpa using n)).out.symm,rfl⟩
   ·have n:(ey zs zs.length==0)=false:=by assumption
    go_ret
    exact⟨congrArg Ending.returned (B (show ¬ey zs zs.length=0 by simpa using n)).out.symm,rfl⟩
theorem zT(A:Nat->Addr)(a:Option Addr)(len cap c:Nat)(set:Int)(w:World)(b:Calls prog 153 #[.slice a len cap] w fun e w'=>e=.returned (ev A (c+1))∧w'=w):Calls prog 261 #[.slice a len cap,.int .i64 set] w fun e w'=>e=.returned (ev A (c+1))∧w'=w:=by
 have d:Hid (Calls prog 153 #[.slice a len cap] w fun e w'=>e=.returned (ev A (c+1))∧w'=w):=b;clear b;have f:ev A (c+1)=.iface 318 (.pointer (some (A c))):=rfl;rw[f]at d ⊢;clear f
 go_enter func261,ntmps261
 go_wp2_with (go_at_call 153;refine d.mono ?_;rintro e w' ⟨rfl,rfl⟩)
 go_ret
 exact⟨rfl,rfl⟩
theorem zr(A:Nat->Addr)(a:Option Addr)(len cap:Nat)(set:Int)(w:World)(d:len<=7)(f:Held3 w A)(c:Calls prog 153 #[.slice a len cap] w fun e w'=>e=.returned .nilIface∧w'=w):Calls prog 261 #[.slice a len cap,.int .i64 set] w fun e w'=>e=.returned (ev A (if set<0∨2^len<=set then 2 else 0))∧w'=w:=by
 have b:Hid (Calls prog 153 #[.slice a len cap] w fun e w'=>e=.returned .nilIface∧w'=w):=c;have i:w.cell? ⟨0,0,none⟩=some (.iface 318 (.pointer (some (A 1)))):=f 1 (by omega) (by omega);have j:=dZ d;clear c
 by_cases g:set<0
 ·rw[af (Or.inl g)]
  go_enter func261,ntmps261
  go_wp2_with (first|(go_at_call 153;refine b.mono ?_;rintro e w' ⟨rfl,rfl⟩)|(go_at_call 266;refine(iL _ _ _ _ (by omega)).mono ?_;rintro e w' ⟨rfl,rfl⟩))
  go_ret
  exact⟨rfl,rfl⟩
 ·by_cases h:2^len<=set
  ·rw[af (Or.inr h)]
   go_enter func261,ntmps261
   go_wp2_with (first|(go_at_call 153;refine b.mono ?_;rintro e w' ⟨rfl,rfl⟩)|(go_at_call 266;refine(iL _ _ _ _ (by omega)).mono ?_;rintro e w' ⟨rfl,rfl⟩))
   go_ret
   exact⟨rfl,rfl⟩
  ·rw[aa (by omega)]
   go_enter func261,ntmps261
   go_wp2_with (first|(go_at_call 153;refine b.mono ?_;rintro e w' ⟨rfl,rfl⟩)|(go_at_call 266;refine(iL _ _ _ _ (by omega)).mono ?_;rintro e w' ⟨rfl,rfl⟩))
   go_ret
   exact⟨rfl,rfl⟩
def IsSl(w:World)(v:Value)(zs:List Int):Prop:=
 ∃a cap,v=.slice a zs.length cap∧zs.length<=maxLen∧(a=none->cap=0)∧(0<zs.length->∃b off,a=some ⟨b,off,none⟩∧∀i,i<zs.length->w.cell? ⟨b,off+i,none⟩=some (.int .i64 (zs.getD i 0)))
theorem IsSl.later{w w':World}{v:Value}{zs:List Int}(h:IsSl w v zs)(a:Below w.heap.size w w'):IsSl w' v zs:=by
 obtain⟨b,cap,c,d,e,f⟩:=h;refine⟨b,cap,c,d,e,fun g=>?_⟩;obtain⟨i,j,k,l⟩:=f g;exact⟨i,j,k,fun m n=>ag a (l m n)⟩
theorem Held3.later{w w':World}{A:Nat->Addr}(h:Held3 w A)(a:Below w.heap.size w w'):Held3 w' A:=fun b c d=>ag a (h b c d)
theorem nO(A:Nat->Addr)(v:Value)(zs:List Int)(w:World)(c:IsSl w v zs)(b:Held3 w A):Calls prog 153 #[v] w fun e w'=>e=.returned (ev A (bT zs))∧w'=w:=by
 obtain⟨d,cap,rfl,f,-,g⟩:=c
 by_cases a:zs.length<1∨7<zs.length
 ·rw[rc a];exact wW A d zs.length cap w f a b
 ·obtain⟨h,i,rfl,j⟩:=g (by omega)
  exact aeZ A h i cap zs w a b j
theorem tK(A:Nat->Addr)(v:Value)(zs:List Int)(set:Int)(w:World)(d:IsSl w v zs)(f:Held3 w A):Calls prog 261 #[v,.int .i64 set] w fun e w'=>e=.returned (ev A (ii zs set))∧w'=w:=by
 have a:=nO A v zs w d f;obtain⟨g,cap,rfl,i,-,j⟩:=d
 by_cases b:bT zs=0
 ·rw[b]at a
  have:=zr A g zs.length cap set w (bp b).2.1 f a;unfold ii;rw[af b];exact this
 ·obtain⟨c,h⟩:∃c,bT zs=c+1:=⟨bT zs-1,by omega⟩
  unfold ii;rw[aa b,h];rw[h]at a;exact zT A g zs.length cap c set w a
def QF(w:World)(p q:Addr)(zs:List Int):Prop:=
 ∃(r:Addr) (b off cap:Nat),w.cell? p=some (.func (.func 269) #[] #[.pointer (some r)])∧w.cell? q=some (.int .i64 (tot zs))∧w.cell? r=some (.slice (some ⟨b,off,none⟩) zs.length cap) ∧
  ∀i,i<zs.length->w.cell? ⟨b,off+i,none⟩=some (.int .i64 (zs.getD i 0))
theorem afa(b a cap:Nat)(zs:List Int)(w:World)(f:zs.length<=7)(g:eM zs zs.length)(c:∀i,i<zs.length->w.cell? ⟨b,a+i,none⟩=some (.int .i64 (zs.getD i 0))):Calls prog 262 #[.slice (some ⟨b,a,none⟩) zs.length cap] w fun e w'=>∃p q:Addr,e=.returned (.func (.func 268) #[] #[.pointer (some p),.pointer (some q)])∧QF w' p q zs∧Below w.heap.size w w':=by
 refine(aal b a cap zs w f g c).mono ?_;rintro e w' ⟨rfl,rfl⟩;have d:bW w (((w.alloc (.cells #[.slice (some ⟨b,a,none⟩) zs.length cap] 34)).alloc (.cells #[.func (.func 269) #[] #[pV w.heap.size]] 71)).alloc (.cells #[iV (tot zs)] 3)).drew :=
  (((aD).alloc (by simp) _).alloc (by simp;omega) _).drew
 refine⟨_,_,rfl,⟨⟨w.heap.size,0,none⟩,b,a,cap,?_,?_,?_,fun i h=>ag d (c i h)⟩,d⟩
 ·simp only[World.cell?_drew];exact bM _ (by simp)
 ·simp only[World.cell?_drew];rw[World.cell?_alloc_at _ _ _ _ (by simp)];rfl
 ·simp only[World.cell?_drew];exact bM _ (bM _ (by simp))
theorem acp(p q:Addr)(zs:List Int)(set:Int)(w:World)(a:zs.length<=7)(b:eM zs zs.length)(h0:0<=set)(h1:set<128)(c:QF w p q zs):Calls prog 268 #[.int .i64 set,.pointer (some p),.pointer (some q)] w fun e w'=>e=.returned (.bool (bn zs set))∧Below w.heap.size w w':=by
 obtain⟨d,f,g,cap,h,i,j,k⟩:=c;refine(wD p q d f g cap zs set w a b h0 h1 h i j k).mono ?_;rintro e w' ⟨rfl,l,rfl⟩;exact⟨rfl,aJ aF l⟩
theorem acq(A:Nat->Addr)(v:Value)(zs:List Int)(set:Int)(w:World)(d:IsSl w v zs)(f:Held3 w A)(a:ii zs set=0):Calls prog 246 #[v,.int .i64 set] w fun e w'=>e=.returned (.tuple #[.bool (bn zs set),.nilIface])∧Below w.heap.size w w':=by
 have b:=tK A v zs set w d f;rw[a]at b;have l:Hid (Calls prog 261 #[v,iV set] w fun e w'=>e=.returned .nilIface∧w'=w):=b;obtain⟨g,m,u⟩:=jX a;obtain⟨x,c,h,-⟩:=bp g;have y:=dZ c;clear b f a;obtain⟨z,cap,rfl,-,-,i⟩:=d;obtain⟨n,o,rfl,j⟩:=i (by omega);clear i;have p:=hid j;clear j g
 go_enter func246,ntmps246
 go_wp2_with (first|(go_at_call 261;refine l.mono ?_;rintro e w' ⟨rfl,rfl⟩)|(go_at_call 262;refine(afa n o cap zs _ c h p).mono ?_;rintro e B ⟨q,r,rfl,s,k⟩)|(go_at_call 268;refine(acp q r zs set _ c h m (by omega) s).mono ?_;rintro e C ⟨rfl,t⟩))
 go_ret2
 exact⟨rfl,k.trans (t.mono k.size)⟩
theorem Tryz.infoInt:(prog.info? 3).map (fun i=>(i.zero,i.size,i.bytes))=some (some (.int .i64 0),1,8):=by kernel_rfl
theorem IsSl.owned{w:World}{base:Nat}{v:Value}{zs:List Int}(h:w.ownsRow base 3 1 v zs.length (zs.map (Value.int .i64)))(a:zs.length<=maxLen):IsSl w v zs:=by
 have b:=h;rcases h.2 with⟨rfl,c⟩|⟨d,cap,g,rfl,i,j,k,l,m,n⟩
 ·exact⟨none,0,by rw[c],a,fun _=>rfl,fun o=>by omega⟩
 ·refine⟨_,cap,rfl,a,(fun h=>by cases h),fun _=>⟨d,0,rfl,fun e f=>?_⟩⟩
  have:=b.cellAt e (by omega);rw[Nat.zero_add,this];simp[f]
def tG(n:Nat)(L:Array Bool):Nat:=((List.range n).filter fun i=>!L.getD i true).length
theorem oY{α:Type}{p q:α->Bool}:∀(l:List α) (x:α),x∈l->(∀y,q y=true->p y=true)->p x=true->q x=false->(l.filter q).length<(l.filter p).length
 | [],x,h,_,_,_=>by cases h
 | y::l,x,h,a,d,e=>by
  have f:∀l:List α,(l.filter q).length<=(l.filter p).length:=fun l=>by
   induction l with
   | nil=>exact aj
   | cons b l g =>
    simp only[List.filter_cons]
    cases c:q b with
    | true=>rw[a b c];simpa using g
    | false=>cases p b<;>simp<;>omega
  rcases List.mem_cons.1 h with rfl|h
  ·simp only[List.filter_cons,d,e]
   have:=f l;simp;omega
  ·have:=oY l x h a d e
   simp only[List.filter_cons]
   cases c:q y with
   | true=>rw[a y c];simpa using this
   | false=>cases p y<;>simp<;>omega
theorem vz{n i:Nat}{L:Array Bool}(d:i<n)(e:i<L.size)(h:L.getD i true=false):tG n (L.setIfInBounds i true)<tG n L:=by
 refine oY (List.range n) i (List.mem_range.2 d) (fun a b=>?_) (by rw[h];rfl) ?_
 ·by_cases c:a=i
  ·subst c;rw[h];rfl
  ·have:(L.setIfInBounds i true).getD a true=L.getD a true:=by simp[Ne.symm c]
   rw[this]at b;exact b
 ·simp[e]
section
variable {P:Program} {md:Region.Mode} {ops:Array Oper} {Q:Exit→Act→World→Prop} {I:Nat→(Nat→Bool)→Act→World→Prop}
theorem tf{L:Array Bool}{i:Nat}(h:i∈Region.ready md ops L):i<ops.size∧L.getD i true=false∧∀o,ops[i]?=some o->∀e,e∈o.after.toList->Region.binds md e=true->L.getD e.on false=true:=by
 unfold Region.ready at h;obtain⟨d,a⟩:=List.mem_filter.1 h;simp only[Bool.and_eq_true,Bool.not_eq_true']at a;refine⟨List.mem_range.1 d,a.1,fun o f e g j=>?_⟩;have b:=a.2;rw[f]at b;simp only[Option.map_some,Option.getD_some,Array.all_eq_true']at b;have c:=b e (Array.mem_toList_iff.1 g);rw[j]at c
 simpa using c
theorem sM(d:∀(i:Nat) (o:Oper),ops[i]?=some o->∀e,e∈o.after.toList->e.on<i){L:Array Bool}(l:L.size=ops.size)(h:Region.ready md ops L=[]):∀i,i<ops.size->L.getD i false=true:=by
 intro i
 induction i using Nat.strongRecOn with
 | ind i f =>
  intro a
  cases b:L.getD i false with
  | true=>rfl
  | false =>
   exfalso
   have c:i∈Region.ready md ops L:=by
    unfold Region.ready;refine List.mem_filter.2 ⟨List.mem_range.2 a,?_⟩;have g:L.getD i true=false:=by
     rw[Array.getD_eq_getD_getElem?,Array.getElem?_eq_getElem (by omega)]at b ⊢
     simpa using b
    rw[g,Array.getElem?_eq_getElem a];simp only[Bool.not_false,Bool.true_and,Option.map_some,Option.getD_some,Array.all_eq_true'];intro e j;have k:=d i _ (Array.getElem?_eq_getElem a) e (Array.mem_toList_iff.2 j);rw[f e.on k (by omega)];simp
   rw[h]at c;cases c
theorem acF(l:∀(i:Nat) (o:Oper),ops[i]?=some o->∀e,e∈o.after.toList->e.on<i)(n:∀f L a w,I (f+1) L a w->∀i,i<ops.size->L i=false->(∀(o:Oper),ops[i]?=some o->∀e,e∈o.after.toList->Region.binds md e=true->L e.on=true) ->
   wpOp P ops Q i (fun k w'=>∀L',(∀j,L' j=if j=i then true else L j)->I f L' k w') a w)(m:∀f L a w,I f L a w->(∀i,i<ops.size->L i=true)->Q .normal a w):∀(fuel:Nat) (L:Array Bool) (a:Act) (w:World),L.size=ops.size->tG ops.size L<=fuel->I fuel (fun i=>L.getD i false) a w->wpAny P md ops Q fuel L a w:=by
 intro fuel
 induction fuel with
 | zero =>
  intro L a w c p d;have g:Region.ready md ops L=[]:=by
   cases q:Region.ready md ops L with
   | nil=>rfl
   | cons i x =>
    exfalso
    obtain⟨h,b,-⟩:=tf (md:=md) (ops:=ops) (L:=L) (i:=i) (by rw[q];exact List.mem_cons_self);have:=vz h (by omega) b;omega
  exact⟨g,m 0 _ a w d (sM l c g)⟩
 | succ fuel r =>
  intro L a w c p d;refine⟨fun g=>m _ _ a w d (sM l c g),fun i s=>?_⟩;obtain⟨h,b,t⟩:=tf s;have u:L.getD i false=false:=by
   rw[Array.getD_eq_getD_getElem?,Array.getElem?_eq_getElem (by omega)]at b ⊢
   simpa using b
  refine wpOp_mono (fun k w' v=>?_) (n fuel _ a w d i h u t);refine r (L.setIfInBounds i true) k w' (by simpa using c) (by have:=vz h (by omega) b;omega) (v _ (fun j=>?_))
  by_cases e:j=i
  ·subst e;simp[show j<L.size by omega]
  ·rw[aa e];simp[Ne.symm e]
end
end Go.Proofs.YtaehdgemkafinaaGreatDoor
namespace Go.Proofs.YtaehdgemkafinaaGreatDoor
open Go.ChangeShapes Go.WideShapes Go.RowKit
open Go.Proofs.Tryz
theorem ur{H:Type}{enc:TypeId×Value->H}{W:World}{a:Option Addr}{len cap fuel:Nat}{d:DataW H}{p:List MemPlace}{k:Nat->Bool}{held:Bool}(o:DataW.trod enc prog W 0 k held fuel 34 (Value.slice a len cap).cells.toList=some (d,p)):∃zs,IsSl W (.slice a len cap) zs:=by
 rcases open_ints underlying34 underlying3 (by kernel_rfl) o with⟨b,_⟩|⟨c,u,v,zs,b,_,w,x,q,_,l,y⟩
 ·simp[Value.cells]at b
  obtain⟨rfl,rfl,rfl⟩:=b;exact⟨[],none,0,rfl,by simp,fun _=>rfl,fun e=>by cases e⟩
 ·simp[Value.cells]at b
  obtain⟨rfl,rfl,rfl⟩:=b;have z:len<=zs.length:=by rw[q];split<;>omega
  have f:(zs.take len).length=len:=by rw[bI];omega
  refine⟨zs.take len,some c,cap,by rw[f],by omega,(fun e=>by cases e),fun r=>?_⟩;rw[f]at r;have g:=l 0 (by omega);have m:c.spot=none:=by
   cases s:c.spot with
   | none=>rfl
   | some A=>unfold World.cell? Addr.add at g;simp[s]at g;revert g;split<;>simp
  obtain⟨h,i,k⟩:=c;simp at m;subst m;refine⟨h,i,rfl,fun j n=>?_⟩;rw[f]at n;have:=l j (by omega);have t:(⟨h,i,none⟩:Addr).add j=⟨h,i+j,none⟩:=by unfold Addr.add;split<;>simp_all
  rw[t]at this;rw[this];simp[List.getD,n]
theorem own:ownKnob prog.godebug=none:=by kernel_rfl
theorem afD:laidOutB prog=true:=by kernel_rfl
theorem aim: "*" ++ "errors.errorString"= "*errors.errorString":=by decide
theorem ahb(a:TypeId)(h:prog.typeName? 3 a=some "*errors.errorString"):a=318:=
 typeName_ptr_named (nm:= "errors.errorString") (by rw[aim];kernel_rfl) (by kernel_rfl) (by decide) a (by rw[aim];exact h)
theorem abQ:prog.cellsOf 336=1:=by kernel_rfl
theorem wP:prog.cellsOf 9=1:=by kernel_rfl
def ahO(text:List UInt8):DataW Unit:=.iface "*errors.errorString" (.ptr (.agg [.lit (.string text)]))
structure Sent (W:World) (g:Nat) (a:Addr):Prop where
 var:W.cell? ⟨g,0,none⟩=some (.iface 318 (.pointer (some a)))
 str:∃s,W.cell? a=some (.string s)
 row:∃c t,W.heap[a.block]?=some (.cells c t (0,0))
end Go.Proofs.YtaehdgemkafinaaGreatDoor
