/-
  On the way to SPlaysProof: EA EB L4 L5 L6 P6 P7 P8 SN.
-/
import Derived.Test.YtaehdgemkafinaaGreatDoorBx3
import Derived.Test.YtaehdgemkafinaaGreatDoorBx4
import Derived.Test.YtaehdgemkafinaaGreatDoorBx5
set_option maxHeartbeats 8000000
set_option maxRecDepth 100000
namespace Go.Proofs.YtaehdgemkafinaaGreatDoor
open Go.RowKit
open Go.Proofs.Tryz
def bdB(n:Int)(e:E3):Bool:=decide ((0<=e.s∧e.s<n)∧(0<=e.d∧e.d<6)∧(e.p=2∨e.p=3))
def spB(P:List E3)(e:E3):Bool:=P.any fun q=>decide (q.d=e.d∧q.p≠e.p)
def heB(P:List E3)(e:E3):Bool:=P.any fun q=>decide (q.d=e.d∧q.s=e.s)
def evC(n:Int)(P:List E3)(e:E3):Nat:=if bdB n e=false then 2 else if spB P e=true then 9 else if heB P e=true then 8 else 0
def EvW(n:Int)(L:List E3)(k:Nat):Prop:=∀j (h:j<L.length),j<k->evC n (L.take j) (L[j]'h)=0
def EvF(n:Int)(L:List E3)(c k:Nat):Prop:=EvW n L k∧((c=0∧k=L.length)∨∃h:k<L.length,c≠0∧evC n (L.take k) (L[k]'h)=c)
def jo(P:List E3)(d:Nat):Int:=P.foldl (fun x e=>if e.d=(d:Int)then e.p else x) 0
def gX(P:List E3)(d:Nat):Int:=P.foldl (fun x e=>if e.d=(d:Int)then bits .or .i64 x (2^e.s.toNat)else x) 0
theorem nU(P:List E3)(e:E3)(d:Nat):jo (P++[e]) d=if e.d=(d:Int)then e.p else jo P d:=by simp[jo,List.foldl_append]
theorem nG(P:List E3)(e:E3)(d:Nat):gX (P++[e]) d=if e.d=(d:Int)then bits .or .i64 (gX P d) (2^e.s.toNat)else gX P d:=by simp[gX,List.foldl_append]
structure EvK (n:Int) (P:List E3):Prop where
 bd:∀q,q∈P->bdB n q=true
 en:∀q,q∈P->∀d:Nat,q.d=(d:Int)->jo P d=q.p
 e0:∀d:Nat,jo P d≠0->∃q,q∈P∧q.d=(d:Int)
 s0:∀d:Nat,0<=gX P d∧gX P d<128
 si:∀(d i:Nat),i<7->bit (gX P d) i=P.any fun q=>decide (q.d=(d:Int)∧q.s=(i:Int))
theorem EvK.nil(n:Int):EvK n []:=⟨fun _ a=>(by cases a),fun _ a=>(by cases a),fun _ a=>absurd rfl a,fun _=>⟨(show(0:Int)<=0 by omega),(show(0:Int)<128 by omega)⟩,fun c b _=>by show bit 0 b=false;unfold bit;simp⟩
theorem ah1:((List.range 128).all fun s=>(List.range 7).all fun q=>(decide (s ||| 2^q<128))&&(List.range 7).all fun j=>(Nat.testBit (s ||| 2^q) j==(Nat.testBit s j||decide (q=j))))=true:=by decide +kernel
theorem yi{x:Int}{q:Nat}(h0:0<=x)(h1:x<128)(c:q<7):(0<=bits .or .i64 x (2^q)∧bits .or .i64 x (2^q)<128)∧∀j,j<7->bit (bits .or .i64 x (2^q)) j=(bit x j||decide (q=j)):=by
 obtain⟨a,rfl⟩:=bD h0;have d:a<128:=by omega
 have b:=List.all_eq_true.1 (List.all_eq_true.1 ah1 a (List.mem_range.2 d)) q (List.mem_range.2 c);rw[Bool.and_eq_true]at b;have e:(2:Nat)^q<9223372036854775808:=bm (Nat.pow_lt_pow_right (by decide) c) (by decide);have g:=cK b.1;rw[fG,ga a (2^q) (by omega) e];refine⟨by omega,fun j f=>?_⟩;have:=List.all_eq_true.1 b.2 j (List.mem_range.2 f);unfold bit;rw[aU,aU];exact eq_of_beq this
theorem uU{n:Int}{P:List E3}{e:E3}(h:evC n P e=0):bdB n e=true∧spB P e=false∧heB P e=false:=by
 unfold evC at h
 split at h
 ·cases h
 ·rename_i b
  split at h
  ·cases h
  ·rename_i c
   split at h
   ·cases h
   ·rename_i d
    refine⟨?_,?_,?_⟩
    ·cases a:bdB n e with
     | true=>rfl
     | false=>exact absurd a b
    ·cases a:spB P e with
     | false=>rfl
     | true=>exact absurd a c
    ·cases a:heB P e with
     | false=>rfl
     | true=>exact absurd a d
theorem EvK.snoc{n:Int}{P:List E3}{e:E3}(q:n<=7)(h:EvK n P)(m:evC n P e=0):EvK n (P++[e]):=by
 obtain⟨k,o,r⟩:=uU m;have s:=cK k;refine⟨fun c g=>?_,fun c g a d=>?_,fun a d=>?_,fun a=>?_,fun a i j=>?_⟩
 ·rcases List.mem_append.1 g with b|b
  ·exact h.bd c b
  ·rw[List.mem_singleton]at b;rw[b];exact k
 ·rw[nU]
  rcases List.mem_append.1 g with b|b
  ·split
   ·rename_i f
    have:=List.any_eq_false.1 o c b;simp only[decide_eq_true_eq,not_and]at this;have l:=this (by omega);omega
   ·exact h.en c b a d
  ·rw[List.mem_singleton]at b
   subst b;rw[af d]
 ·rw[nU]at d
  split at d
  ·rename_i f
   exact⟨e,List.mem_append.2 (.inr (List.mem_singleton.2 rfl)),f⟩
  ·obtain⟨c,p,l⟩:=h.e0 a d
   exact⟨c,List.mem_append.2 (.inl p),l⟩
 ·rw[nG]
  split
  ·exact(yi (h.s0 a).1 (h.s0 a).2 (by omega)).1
  ·exact h.s0 a
 ·rw[nG,List.any_append,List.any_cons,List.any_nil,Bool.or_false]
  split
  ·rename_i f
   rw[(yi (h.s0 a).1 (h.s0 a).2 (by omega)).2 i j,h.si a i j]
   congr 1
   refine decide_eq_decide.2 ?_;omega
  ·rename_i f
   rw[h.si a i j,aS (fun b=>f b.1),Bool.or_false]
theorem EvW.kept{n:Int}{L:List E3}(b:n<=7):∀{k:Nat},k<=L.length->EvW n L k->EvK n (L.take k)
 | 0,_,_=>by rw[List.take_zero];exact EvK.nil n
 | k+1,a,h=>by
  rw[iv L k a];exact(EvW.kept b (Nat.le_of_succ_le a) (fun j c d=>h j c (Nat.lt_succ_of_lt d))).snoc b (h k a (Nat.lt_succ_self _))
theorem EvK.split{n:Int}{P:List E3}(h:EvK n P){e:E3}{d:Nat}(j:e.d=(d:Int)):spB P e=(jo P d != 0&&jo P d != e.p):=by
 rw[Bool.eq_iff_iff,Bool.and_eq_true,bne_iff_ne,bne_iff_ne];unfold spB;rw[List.any_eq_true];constructor
 ·rintro⟨a,b,c⟩
  have c:=cK c;have f:=h.en a b d (by omega);have g:=cK (h.bd a b);omega
 ·rintro⟨f,g⟩
  obtain⟨a,b,i⟩:=h.e0 d f;have k:=h.en a b d i;exact⟨a,b,bo ⟨by omega,by omega⟩⟩
theorem EvK.held{n:Int}{P:List E3}(h:EvK n P){e:E3}{d i:Nat}(a:e.d=(d:Int))(b:e.s=(i:Int))(c:i<7):heB P e=bit (gX P d) i:=by
 rw[h.si d i c];unfold heB;rw[a,b]
theorem eS(x n:Int)(b:Bool)(w:World)(f:decide (0<=x∧x<n)=b):Calls prog 170 #[.int .i64 x,.int .i64 n] w fun e w'=>e=.returned (.bool b)∧w'=w:=by
 subst f
 by_cases a:0<=x
 ·by_cases c:x<n
  ·rw[bo (show 0<=x∧x<n from⟨a,c⟩)]
   go_enter func170,ntmps170
   go_wp2_with fail
   go_ret
   exact⟨rfl,rfl⟩
  ·rw[aS (show ¬(0<=x∧x<n)from fun d=>c d.2)]
   have g:decide (x<n)=false:=aS c
   go_enter func170,ntmps170
   go_wp2_with fail
   go_ret
   exact⟨rfl,rfl⟩
 ·rw[aS (show ¬(0<=x∧x<n)from fun d=>a d.1)]
  have g:decide (0<=x)=false:=aS a
  go_enter func170,ntmps170
  go_wp2_with fail
  go_ret
  exact⟨rfl,rfl⟩
theorem kY(p:Int)(b:Bool)(w:World)(d:decide (p=2∨p=3)=b):Calls prog 171 #[.int .i64 p] w fun e w'=>e=.returned (.bool b)∧w'=w:=by
 subst d
 by_cases a:p=2
 ·subst a
  go_enter func171,ntmps171
  go_wp2_with fail
  go_ret
  exact⟨rfl,rfl⟩
 ·by_cases c:p=3
  ·subst c
   go_enter func171,ntmps171
   go_wp2_with fail
   go_ret
   exact⟨rfl,rfl⟩
  ·rw[aS (show ¬(p=2∨p=3) by omega)]
   have f:(p==2)=false:=beq_eq_false_iff_ne.2 a;have g:(p==3)=false:=beq_eq_false_iff_ne.2 c
   go_enter func171,ntmps171
   go_wp2_with fail
   go_ret
   exact⟨rfl,rfl⟩
theorem jR{w:World}{b:Nat}{a c e:Value}{t:TypeId}{f:Nat×Nat}(h:w.heap[b]?=some (.cells #[a,c,e] t f)):w.cell? ⟨b,0,none⟩=some a∧w.cell? ⟨b,1,none⟩=some c∧w.cell? ⟨b,2,none⟩=some e:=
 ⟨by rw[ai h];rfl,by rw[ai h];rfl,by rw[ai h];rfl⟩
def lJ(E S:Nat->Int):List Value:=[.int .i64 (E 0),.int .i64 (S 0),.int .i64 (E 1),.int .i64 (S 1),.int .i64 (E 2),.int .i64 (S 2),.int .i64 (E 3),.int .i64 (S 3),.int .i64 (E 4),.int .i64 (S 4),.int .i64 (E 5),.int .i64 (S 5)]
def pD(E S:Nat->Int):Value:=.agg #[.int .i64 (E 0),.int .i64 (S 0),.int .i64 (E 1),.int .i64 (S 1),.int .i64 (E 2),.int .i64 (S 2),.int .i64 (E 3),.int .i64 (S 3),.int .i64 (E 4),.int .i64 (S 4),.int .i64 (E 5),.int .i64 (S 5)]
theorem uJ(E S:Nat->Int){d:Nat}(b:d<6):(lJ E S)[d*2]?=some (.int .i64 (E d))∧(lJ E S)[d*2+1]?=some (.int .i64 (S d)):=by
 have a:d=0∨d=1∨d=2∨d=3∨d=4∨d=5:=by omega
 rcases a with rfl|rfl|rfl|rfl|rfl|rfl<;>exact⟨rfl,rfl⟩
theorem tb{w:World}{b:Nat}{E S:Nat->Int}{t:TypeId}(h:w.heap[b]?=some (.cells (lJ E S).toArray t (0,0))){d:Nat}(a:d<6):w.cell? ⟨b,d*2,none⟩=some (.int .i64 (E d))∧w.cell? ⟨b,d*2+1,none⟩=some (.int .i64 (S d)):=by
 obtain⟨c,e⟩:=uJ E S a;exact⟨by rw[ai h,List.getElem?_toArray];exact c,by rw[ai h,List.getElem?_toArray];exact e⟩
theorem yJ(A:Nat->Addr)(s d p n:Int)(E S:Nat->Int)(w:World)(k:Held9 w A)(l:bdB n ⟨s,d,p⟩=false):Calls prog 126 #[.agg #[.int .i64 s,.int .i64 d,.int .i64 p],.int .i64 n,pD E S] w fun e w'=>e=.returned (ev A 2)∧Below w.heap.size w w':=by
 obtain⟨m,f⟩:=nmd (decide (0<=s∧s<n));obtain⟨o,i⟩:=nmd (decide (0<=d∧d<6));obtain⟨r,q⟩:=nmd (decide (p=2∨p=3));have t:Hid (m=true->o=true->r=false):=fun u v=>by
  have x:=cK (f.trans u);have y:=cK (i.trans v);rw[<-q.out];refine aS fun z=>?_
  exact of_decide_eq_false l ⟨x,y,z⟩
 obtain⟨g,j⟩:=nmd ((w.alloc (.cells #[iV s,iV d,iV p] 180)).alloc (.cells #[iV (E 0),iV (S 0),iV (E 1),iV (S 1),iV (E 2),iV (S 2),iV (E 3),iV (S 3),iV (E 4),iV (S 4),iV (E 5),iV (S 5)] 179));have h:Hid (bW w g):=by rw[<-j.out];exact(aD).alloc (by simp) _
 have B:Hid (g.heap[w.heap.size]?=some (.cells #[iV s,iV d,iV p] 180 (0,0))):=by
  rw[<-j.out];exact(heap_alloc_old _ _ (by simp)).trans (aB w _)
 obtain⟨C,D,F⟩:=jR B;have G:=j.out;have H:=(k.later h).cells.2.1;unfold pD;clear k l
 cases m with
 | false =>
  go_enter func126,ntmps126
  go_wp2_with fail
  refine(eS s n false _ f).mono ?_;rintro e a ⟨rfl,c⟩;subst a
  go_wp2_with fail
  go_ret
  exact⟨rfl,h⟩
 | true =>
  cases o with
  | false =>
   go_enter func126,ntmps126
   go_wp2_with fail
   refine(eS s n true _ f).mono ?_;rintro e a ⟨rfl,c⟩;subst a
   go_wp2_with fail
   refine(eS d 6 false _ i).mono ?_;rintro e a ⟨rfl,c⟩;subst a
   go_wp2_with fail
   go_ret
   exact⟨rfl,h⟩
  | true =>
   obtain rfl:=t.out rfl rfl
   go_enter func126,ntmps126
   go_wp2_with fail
   refine(eS s n true _ f).mono ?_;rintro e a ⟨rfl,c⟩;subst a
   go_wp2_with fail
   refine(eS d 6 true _ i).mono ?_;rintro e a ⟨rfl,c⟩;subst a
   go_wp2_with fail
   refine(kY p false _ q).mono ?_;rintro e a ⟨rfl,c⟩;subst a
   go_wp2_with fail
   go_ret
   exact⟨rfl,h⟩
theorem aez{s:Int}(k:Nat)(h0:0<=s)(h1:s<9223372036854775808):(bits BinOp.and IntKind.i64 (s / 2^k) 1==1)=bit s k:=by
 obtain⟨a,rfl⟩:=bD h0;have b:((a:Int) / 2^k)=((a / 2^k:Nat):Int):=by simp
 have c:a / 2^k<9223372036854775808:=Nat.lt_of_le_of_lt (Nat.div_le_self _ _) (by omega);rw[b,show(1:Int)=((1:Nat):Int)from rfl,gZ _ 1 c (by decide),Nat.and_one_is_mod];unfold bit;rw[aU,Nat.testBit_eq_decide_div_mod_eq,Bool.eq_iff_iff];simp;omega
theorem abp(A:Nat->Addr)(s d:Nat)(p n:Int)(E S:Nat->Int)(x y:Bool)(w:World)(v:Held9 w A)(D:(s:Int)<n)(O:n<=7)(F:d<6)(z:p=2∨p=3)(a:(E d != 0&&E d != p)=x)(h0:0<=S d)(h1:S d<128)(G:bit (S d) s=y):Calls prog 126 #[.agg #[.int .i64 (s:Int),.int .i64 (d:Int),.int .i64 p],.int .i64 n,pD E S] w fun e w'=>e=.returned (ev A (if x=true then 9 else if y=true then 8 else 0))∧Below w.heap.size w w':=by
 have j:Hid (decide (0<=(s:Int)∧(s:Int)<n)=true):=hid (bo ⟨by omega,D⟩);have k:Hid (decide (0<=(d:Int)∧(d:Int)<6)=true):=hid (bo ⟨by omega,by omega⟩);have l:Hid (decide (p=2∨p=3)=true):=hid (bo z);obtain⟨g,i⟩:=nmd ((w.alloc (.cells #[iV (s:Int),iV (d:Int),iV p] 180)).alloc (.cells #[iV (E 0),iV (S 0),iV (E 1),iV (S 1),iV (E 2),iV (S 2),iV (E 3),iV (S 3),iV (E 4),iV (S 4),iV (E 5),iV (S 5)] 179));have c:Hid (bW w g):=by rw[<-i.out];exact(aD).alloc (by simp) _
 have B:Hid (g.heap[w.heap.size]?=some (.cells #[iV (s:Int),iV (d:Int),iV p] 180 (0,0))):=by
  rw[<-i.out];exact(heap_alloc_old _ _ (by simp)).trans (aB w _)
 have C:Hid (g.heap[w.heap.size+1]?=some (.cells (lJ E S).toArray 179 (0,0))):=by
  rw[<-i.out];have:=aB (w.alloc (.cells #[iV (s:Int),iV (d:Int),iV p] 180)) (.cells (lJ E S).toArray 179);rw[World.size_alloc]at this;exact this
 obtain⟨P,Q,R⟩:=jR B;obtain⟨H,I⟩:=tb C F;have T:=i.out;obtain⟨-,U,-,-,-,-,-,V,W⟩:=(v.later c).cells;have m:Hid ((bits BinOp.and IntKind.i64 (S d / 2^s) 1==1)=y):=by rw[<-G];exact aez s h0 (by omega)
 obtain⟨f,J⟩:=nmd (E d);obtain⟨X,K⟩:=nmd (S d);rw[J.out]at H a;rw[K.out]at I m h0 h1;unfold pD;clear v z B C
 cases x with
 | true =>
  rw[Bool.and_eq_true,bne_iff_ne,bne_iff_ne]at a;have L:(f != 0)=true:=bne_iff_ne.2 a.1;have q:(f != p)=true:=bne_iff_ne.2 a.2;rw[af rfl]
  go_enter func126,ntmps126
  go_wp2_with fail
  refine(eS s n true _ j).mono ?_;rintro e b ⟨rfl,a⟩;subst b
  go_wp2_with fail
  refine(eS d 6 true _ k).mono ?_;rintro e b ⟨rfl,a⟩;subst b
  go_wp2_with fail
  refine(kY p true _ l).mono ?_;rintro e b ⟨rfl,a⟩;subst b
  go_wp2_with fail
  go_quiet (fail)
  go_wp2
  go_ret
  exact⟨rfl,aJ c _⟩
 | false =>
  rw[aa (by decide)];have key:∀h r:Bool,(f != 0)=h->(h=true->(f != p)=r∧r=false)->Calls prog 126 #[.agg #[iV (s:Int),iV (d:Int),iV p],iV n,.agg #[iV (E 0),iV (S 0),iV (E 1),iV (S 1),iV (E 2),iV (S 2),iV (E 3),iV (S 3),iV (E 4),iV (S 4),iV (E 5),iV (S 5)]] w fun e w'=>e=.returned (ev A (if y=true then 8 else 0))∧bW w w':=by
   intro h r L q;have t:h=true->(f != p)=false:=fun u=>by obtain⟨M,N⟩:=q u;rw[M,N]
   clear q
   cases h with
   | true =>
    have Y:=t rfl;clear t a
    go_enter func126,ntmps126
    go_wp2_with fail
    refine(eS s n true _ j).mono ?_;rintro e b ⟨rfl,a⟩;subst b
    go_wp2_with fail
    refine(eS d 6 true _ k).mono ?_;rintro e b ⟨rfl,a⟩;subst b
    go_wp2_with fail
    refine(kY p true _ l).mono ?_;rintro e b ⟨rfl,a⟩;subst b
    go_wp2_with fail
    go_quiet (fail)
    go_wp2
    go_quiet (fail)
    rw[m.out]
    cases y with
    | true =>
     go_wp2
     go_ret
     exact⟨rfl,aJ c _⟩
    | false =>
     go_wp2
     go_ret
     exact⟨rfl,aJ c _⟩
   | false =>
    clear t a
    go_enter func126,ntmps126
    go_wp2_with fail
    refine(eS s n true _ j).mono ?_;rintro e b ⟨rfl,a⟩;subst b
    go_wp2_with fail
    refine(eS d 6 true _ k).mono ?_;rintro e b ⟨rfl,a⟩;subst b
    go_wp2_with fail
    refine(kY p true _ l).mono ?_;rintro e b ⟨rfl,a⟩;subst b
    go_wp2_with fail
    go_quiet (fail)
    go_wp2
    go_quiet (fail)
    rw[m.out]
    cases y with
    | true =>
     go_wp2
     go_ret
     exact⟨rfl,aJ c _⟩
    | false =>
     go_wp2
     go_ret
     exact⟨rfl,aJ c _⟩
  refine key _ (f != p) rfl fun u=>⟨rfl,?_⟩
  rw[u,Bool.true_and]at a;exact a
theorem qG(A:Nat->Addr)(e:E3)(n:Int)(P:List E3)(c:Nat)(w:World)(f:Held9 w A)(j:n<=7)(a:EvK n P)(k:evC n P e=c):Calls prog 126 #[.agg #[.int .i64 e.s,.int .i64 e.d,.int .i64 e.p],.int .i64 n,pD (jo P) (gX P)] w fun r w'=>r=.returned (ev A c)∧Below w.heap.size w w':=by
 subst k;unfold evC
 cases g:bdB n e with
 | false =>
  rw[af rfl];exact yJ A e.s e.d e.p n _ _ w f g
 | true =>
  rw[aa (by decide)];obtain⟨⟨l,q⟩,⟨m,s⟩,o⟩:=cK g;obtain⟨p,h⟩:=bD l;obtain⟨b,d⟩:=bD m;have i:=abp A p b e.p n (jo P) (gX P) _ _ w f (by omega) j (by omega) o rfl (a.s0 b).1 (a.s0 b).2 rfl;rw[<-a.split d,<-a.held d h (by omega)]at i;rw[h,d];exact i
def stB(k:Nat):ByteArray:=if k=0 then⟨#[97,115,107,105,110,103]⟩else if k=1 then⟨#[112,114,101,112,97,114,105,110,103]⟩else if k=2 then⟨#[100,111,110,101]⟩else⟨#[114,101,102,117,115,101,100]⟩
theorem ajp:stB 0=⟨#[97,115,107,105,110,103]⟩:=rfl
theorem ajr:stB 1=⟨#[112,114,101,112,97,114,105,110,103]⟩:=rfl
theorem ajC:stB 2=⟨#[100,111,110,101]⟩:=rfl
theorem ah5:stB 3=⟨#[114,101,102,117,115,101,100]⟩:=rfl
section
variable {w w':World} {lb id n cap:Nat} {deal att:Int} {aw:Option Addr} {st:ByteArray} {wait:Int} {vh:Value} {hs:List F9} {ph seen:Int}
theorem RLd.ownSet(h:RLd w lb id n cap deal att aw st wait vh hs ph seen)(i:Nat)(v:Value):(w.setCell ⟨lb,i,none⟩ v).ownsRow (lb+1) 125 9 vh hs.length (am hs):=by
 refine⟨h.own.1,?_⟩;rcases h.own.2 with b|⟨a,cap,c,rfl,d,e,rest⟩
 ·exact .inl b
 ·exact .inr ⟨a,cap,c,rfl,d,(dS _ _ _ _ (by show a≠lb;omega)).trans e,rest⟩
theorem RLd.setSt(h:RLd w lb id n cap deal att aw st wait vh hs ph seen)(x:ByteArray):RLd (w.setCell ⟨lb,4,none⟩ (.string x)) lb id n cap deal att aw x wait vh hs ph seen:=
 ⟨by rw[aE w lb 4 _ _ _ h.row];rfl,h.ownSet 4 _⟩
theorem RLd.setWait(h:RLd w lb id n cap deal att aw st wait vh hs ph seen)(x:Int):RLd (w.setCell ⟨lb,5,none⟩ (.int .i64 x)) lb id n cap deal att aw st x vh hs ph seen:=
 ⟨by rw[aE w lb 5 _ _ _ h.row];rfl,h.ownSet 5 _⟩
theorem RLd.setNone(h:RLd w lb id n cap deal att aw st wait vh hs ph seen):RLd (w.setCell ⟨lb,6,none⟩ (.slice none 0 0)) lb id n cap deal att aw st wait (.slice none 0 0) [] ph seen:=
 ⟨by rw[aE w lb 6 _ _ _ h.row];rfl,World.ownsRow_nil _ _ _ _⟩
theorem RLd.setPh(h:RLd w lb id n cap deal att aw st wait vh hs ph seen)(x:Int):RLd (w.setCell ⟨lb,7,none⟩ (.int .i64 x)) lb id n cap deal att aw st wait vh hs x seen:=
 ⟨by rw[aE w lb 7 _ _ _ h.row];rfl,h.ownSet 7 _⟩
theorem RLd.setSeen(h:RLd w lb id n cap deal att aw st wait vh hs ph seen)(x:Int):RLd (w.setCell ⟨lb,8,none⟩ (.int .i64 x)) lb id n cap deal att aw st wait vh hs ph x:=
 ⟨by rw[aE w lb 8 _ _ _ h.row];rfl,h.ownSet 8 _⟩
theorem kA(p:Int)(h:RLd w lb id n cap deal att aw st wait vh hs ph seen)(f:n<=30):Calls prog 146 #[.pointer (some ⟨lb,0,none⟩),.int .i64 p] w fun e w'=>∃v,e=.returned v∧IsFr w' v (dz id deal 7 att p true n)∧RLd w' lb id n cap deal att aw (stB 2) 0 vh hs ph seen∧Kept (In1 lb) w w':=by
 obtain⟨k,l,m,o,q,r,s,t,u⟩:=h.cells;have x:=h.fz 4;have y:=h.fz 5;have a:=hid ((h.setSt (stB 2)).setWait 0);have c:Hid (Kept (In1 lb) w ((w.setCell ⟨lb,4,none⟩ (.string (stB 2))).setCell ⟨lb,5,none⟩ (iV 0))):=((Kept.refl _ _).set1 4 _).set1 5 _;rw[ajC]at a c ⊢;clear h
 go_enter func146,ntmps146
 go_wp2_with fail
 refine(jb lb id n cap deal 7 att p true aw _ 0 vh ph seen _ a.row f).mono ?_;rintro e z ⟨v,rfl,d,b⟩;have g:=hid (IsFr.owned d);have i:=hid (a.later b);have j:=hid (c.trans (Kept.of_below b));clear d b
 go_wp2_with fail
 go_ret
 exact⟨_,rfl,g,i,j⟩
theorem mR(p:Int)(h:RLd w lb id n cap deal att aw st wait vh hs ph seen)(f:n<=30):Calls prog 148 #[.pointer (some ⟨lb,0,none⟩),.int .i64 p] w fun e w'=>∃v,e=.returned v∧IsFr w' v (dz id deal 5 att p true n)∧RLd w' lb id n cap deal att aw (stB 1) 6 (.slice none 0 0) [] p seen∧Kept (In1 lb) w w':=by
 obtain⟨k,l,m,o,q,r,s,t,u⟩:=h.cells;have x:=h.fz 4;have y:=h.fz 5;have z:=h.fz 6;have A:=h.fz 7;have a:=hid ((((h.setSt (stB 1)).setWait 6).setNone).setPh p);have c:Hid (Kept (In1 lb) w ((((w.setCell ⟨lb,4,none⟩ (.string (stB 1))).setCell ⟨lb,5,none⟩ (iV 6)).setCell ⟨lb,6,none⟩ (.slice none 0 0)).setCell ⟨lb,7,none⟩ (iV p))):=((((Kept.refl _ _).set1 4 _).set1 5 _).set1 6 _).set1 7 _;rw[ajr]at a c ⊢;clear h
 go_enter func148,ntmps148
 go_wp2_with fail
 refine(jb lb id n cap deal 5 att p true aw _ 6 _ p seen _ a.row f).mono ?_;rintro e B ⟨v,rfl,d,b⟩;have g:=hid (IsFr.owned d);have i:=hid (a.later b);have j:=hid (c.trans (Kept.of_below b));clear d b
 go_wp2_with fail
 go_ret
 exact⟨_,rfl,g,i,j⟩
def lN(id:Nat)(deal att:Int)(n:Nat):List F9:=if att=0 then dz id deal 1 att 0 true n else dz id deal 3 att 0 false n
theorem oZ(h:RLd w lb id n cap deal att aw st wait vh hs ph seen)(g:n<=30):Calls prog 84 #[.pointer (some ⟨lb,0,none⟩)] w fun e w'=>∃v,e=.returned v∧IsFr w' v (lN id deal att n)∧Below w.heap.size w w':=by
 obtain⟨k,l,m,o,p,q,r,s,t⟩:=h.cells;have i:=hid h;clear h;unfold lN
 by_cases c:att=0
 ·rw[af c]
  subst c
  go_enter func84,ntmps84
  go_wp2_with fail
  refine(jb lb id n cap deal 1 0 0 true aw _ wait vh ph seen _ i.row g).mono ?_;rintro e j ⟨v,rfl,a,b⟩;have d:=hid (IsFr.owned a);have f:=hid b;clear a b
  go_wp2_with fail
  go_ret
  exact⟨_,rfl,d,f⟩
 ·rw[aa c]
  go_enter func84,ntmps84
  go_wp2_with fail
  refine(jb lb id n cap deal 3 att 0 false aw _ wait vh ph seen _ i.row g).mono ?_;rintro e j ⟨v,rfl,a,b⟩;have d:=hid (IsFr.owned a);have f:=hid b;clear a b
  go_wp2_with fail
  go_ret
  exact⟨_,rfl,d,f⟩
end
theorem nr(id n cap:Nat)(deal att:Int)(aw:Option Addr)(w:World):Calls prog 82 #[.int .i64 (id:Int),.int .i64 deal,.slice aw n cap,.int .i64 att] w fun e w'=>∃lb,e=.returned (.pointer (some ⟨lb,0,none⟩))∧RLd w' lb id n cap deal att aw (stB 0) (if att=0 then 2 else 4) (.slice none 0 0) [] 0 0∧Below w.heap.size w w'∧w.heap.size<=lb:=by
 rw[ajp]
 by_cases a:att=0
 ·rw[af a]
  subst a
  go_enter func82,ntmps82
  go_wp2_with fail
  go_ret
  exact⟨_,rfl,⟨aB w _,World.ownsRow_nil _ _ _ _⟩,aD,aj⟩
 ·rw[aa a]
  go_enter func82,ntmps82
  go_wp2_with fail
  go_ret
  exact⟨_,rfl,⟨aB w _,World.ownsRow_nil _ _ _ _⟩,aD,aj⟩
end Go.Proofs.YtaehdgemkafinaaGreatDoor
namespace Go.Proofs.YtaehdgemkafinaaGreatDoor
open Go.Proofs.Tryz
structure LSt where
 wait:Int
 stt:Nat
 hs:List F9
 ph:Int
 seen:Int
abbrev gO(n id:Nat)(deal att:Int)(L:LSt)(f:F9):Prop:=L.wait≠0∧f.k=L.wait∧f.d=deal∧f.a=att∧f.t=id∧0<=f.f∧f.f<n
def bS(hs:List F9):Nat->List S3
 | 0=>[]
 | k+1=>match bi hs k with
  | none=>bS hs k
  | some x=>bS hs k++[⟨x.ph,x.pr,x.pa⟩]
def ck(hs:List F9):Nat->Int
 | 0=>0
 | k+1=>if(bi hs k).isSome=true then ck hs k+2^k else ck hs k
theorem kR(a:List F9):∀k,0<=ck a k∧ck a k<2^k
 | 0=>⟨Int.le_refl _,by show(0:Int)<1;decide⟩
 | k+1=>by
  obtain⟨h0,h1⟩:=kR a k;have b:(2:Int)^(k+1)=2*2^k:=by rw[Int.pow_succ];omega
  unfold ck;rw[b]
  split<;>omega
theorem nJ(a:List F9):∀k,(bS a k).length<=k
 | 0=>aj
 | k+1=>by
  have:=nJ a k;unfold bS
  split
  ·omega
  ·rw[aR];simp;omega
def dO(L:LSt)(f:F9):Int:=if f.k≠2∧L.seen<f.pr then f.pr else L.seen
def dR(zs:List Int)(id:Nat)(deal att:Int)(L:LSt)(f:F9):LSt×Option (Int×Int):=
 if gO zs.length id deal att L f∧(bi L.hs f.f).isSome=false then
  (if f.y=false then(if f.k=2 then(⟨0,2,L.hs,L.ph,dO L f⟩,some (7,3))else(⟨0,3,L.hs,L.ph,dO L f⟩,none))
  else if f.k=2 then(if(L.hs++[f]).length=zs.length then(⟨6,1,[],4,dO L f⟩,some (5,4))else(⟨L.wait,L.stt,L.hs++[f],L.ph,dO L f⟩,none))
  else if bn zs (ck (L.hs++[f]) zs.length)=false then(⟨L.wait,L.stt,L.hs++[f],L.ph,dO L f⟩,none)
  else if f.k=6 then(⟨0,2,L.hs++[f],L.ph,dO L f⟩,some (7,eN L.ph))
  else if(gc (bS (L.hs++[f]) zs.length)).2=true then(⟨0,2,L.hs++[f],L.ph,dO L f⟩,some (7,(gc (bS (L.hs++[f]) zs.length)).1))
  else(⟨6,1,[],(gc (bS (L.hs++[f]) zs.length)).1,dO L f⟩,some (5,(gc (bS (L.hs++[f]) zs.length)).1)))
 else(L,none)
theorem mr{zs:List Int}{id:Nat}{deal att:Int}{L:LSt}{f:F9}(h:¬(gO zs.length id deal att L f∧(bi L.hs f.f).isSome=false)):dR zs id deal att L f=(L,none):=by
 unfold dR;exact aa h
section
variable {zs:List Int} {id:Nat} {deal att:Int} {L:LSt} {f:F9}
theorem qe(h:gO zs.length id deal att L f∧(bi L.hs f.f).isSome=false)(a:f.y=false)(b:f.k≠2):dR zs id deal att L f=(⟨0,3,L.hs,L.ph,dO L f⟩,none):=by
 unfold dR;rw[af h,af a,aa b]
theorem sY(h:gO zs.length id deal att L f∧(bi L.hs f.f).isSome=false)(a:f.y=false)(b:f.k=2):dR zs id deal att L f=(⟨0,2,L.hs,L.ph,dO L f⟩,some (7,3)):=by
 unfold dR;rw[af h,af a,af b]
theorem su(h:gO zs.length id deal att L f∧(bi L.hs f.f).isSome=false)(a:¬f.y=false)(b:f.k=2)(c:(L.hs++[f]).length=zs.length):dR zs id deal att L f=(⟨6,1,[],4,dO L f⟩,some (5,4)):=by
 unfold dR;rw[af h,aa a,af b,af c]
theorem qr(h:gO zs.length id deal att L f∧(bi L.hs f.f).isSome=false)(a:¬f.y=false)(b:f.k=2)(c:¬(L.hs++[f]).length=zs.length):dR zs id deal att L f=(⟨L.wait,L.stt,L.hs++[f],L.ph,dO L f⟩,none):=by
 unfold dR;rw[af h,aa a,af b,aa c]
theorem nl(h:gO zs.length id deal att L f∧(bi L.hs f.f).isSome=false)(a:¬f.y=false)(b:¬f.k=2)(c:bn zs (ck (L.hs++[f]) zs.length)=false):dR zs id deal att L f=(⟨L.wait,L.stt,L.hs++[f],L.ph,dO L f⟩,none):=by
 unfold dR;rw[af h,aa a,aa b,af c]
theorem sk(h:gO zs.length id deal att L f∧(bi L.hs f.f).isSome=false)(a:¬f.y=false)(b:¬f.k=2)(c:¬bn zs (ck (L.hs++[f]) zs.length)=false)(d:f.k=6):dR zs id deal att L f=(⟨0,2,L.hs++[f],L.ph,dO L f⟩,some (7,eN L.ph)):=by
 unfold dR;rw[af h,aa a,aa b,aa c,af d]
theorem ss(h:gO zs.length id deal att L f∧(bi L.hs f.f).isSome=false)(a:¬f.y=false)(b:¬f.k=2)(c:¬bn zs (ck (L.hs++[f]) zs.length)=false)(d:¬f.k=6){p:Int}(e:gc (bS (L.hs++[f]) zs.length)=(p,true)):dR zs id deal att L f=(⟨0,2,L.hs++[f],L.ph,dO L f⟩,some (7,p)):=by
 unfold dR;rw[af h,aa a,aa b,aa c,aa d,e,af rfl]
theorem tm(h:gO zs.length id deal att L f∧(bi L.hs f.f).isSome=false)(a:¬f.y=false)(b:¬f.k=2)(c:¬bn zs (ck (L.hs++[f]) zs.length)=false)(d:¬f.k=6){p:Int}(e:gc (bS (L.hs++[f]) zs.length)=(p,false)):dR zs id deal att L f=(⟨6,1,[],p,dO L f⟩,some (5,p)):=by
 unfold dR;rw[af h,aa a,aa b,aa c,aa d,e,aa (fun h=>by cases h)]
end
end Go.Proofs.YtaehdgemkafinaaGreatDoor
namespace Go.Proofs.YtaehdgemkafinaaGreatDoor
open Go.RowKit
open Go.Proofs.Tryz
section
variable {w:World} {lb id n cap:Nat} {deal att:Int} {aw:Option Addr} {st:ByteArray} {wait:Int} {vh:Value} {hs:List F9} {ph seen:Int}
theorem zw(f t d k a:Int)(y:Bool)(i j l:Int)(h:RLd w lb id n cap deal att aw st wait vh hs ph seen)(b:¬(wait≠0∧k=wait∧d=deal∧a=att∧t=id∧0<=f∧f<n)):Calls prog 88 #[.pointer (some ⟨lb,0,none⟩),frV f t d k a y i j l] w fun e w'=>e=.returned (.slice none 0 0)∧Below w.heap.size w w':=by
 obtain⟨g,m⟩:=nmd (w.alloc (.cells #[iV f,iV t,iV d,iV k,iV a,.bool y,iV i,iV j,iV l] 125));have c:Hid (bW w g):=by rw[<-m.out];exact aD
 have u:Hid (g.heap[w.heap.size]?=some (.cells #[iV f,iV t,iV d,iV k,iV a,.bool y,iV i,iV j,iV l] 125 (0,0))):=by rw[<-m.out];exact aB w _
 obtain⟨v,x,z,A,B,C,D,E,F⟩:=bH u;obtain⟨G,H,I,J,K,L,M,N,O⟩:=(h.later c).cells;have P:=m.out;clear h
 by_cases o:wait=0
 ·subst o
  clear b
  go_enter func88,ntmps88
  go_wp2_with fail
  go_quiet (fail)
  go_wp2
  go_ret
  exact⟨rfl,aJ c _⟩
 have Q:(wait==0)=false:=beq_eq_false_iff_ne.2 o
 by_cases p:k=wait
 ·subst p
  by_cases q:d=deal
  ·subst q
   by_cases r:a=att
   ·subst r
    by_cases s:t=(id:Int)
    ·subst s
     by_cases R:f<0
     ·clear b
      go_enter func88,ntmps88
      go_wp2_with fail
      go_quiet (fail)
      go_wp2
      go_ret
      exact⟨rfl,aJ c _⟩
     ·by_cases S:(n:Int)<=f
      ·clear b
       go_enter func88,ntmps88
       go_wp2_with fail
       go_quiet (fail)
       go_wp2
       go_ret
       exact⟨rfl,aJ c _⟩
      ·exact absurd ⟨o,rfl,rfl,rfl,rfl,by omega,by omega⟩ b
    ·have T:(t != (id:Int))=true:=bne_iff_ne.2 s
     clear b
     go_enter func88,ntmps88
     go_wp2_with fail
     go_quiet (fail)
     go_wp2
     go_ret
     exact⟨rfl,aJ c _⟩
   ·have U:(a != att)=true:=bne_iff_ne.2 r
    clear b
    go_enter func88,ntmps88
    go_wp2_with fail
    go_quiet (fail)
    go_wp2
    go_ret
    exact⟨rfl,aJ c _⟩
  ·have V:(d != deal)=true:=bne_iff_ne.2 q
   clear b
   go_enter func88,ntmps88
   go_wp2_with fail
   go_quiet (fail)
   go_wp2
   go_ret
   exact⟨rfl,aJ c _⟩
 ·have W:(k != wait)=true:=bne_iff_ne.2 p
  clear b
  go_enter func88,ntmps88
  go_wp2_with fail
  go_quiet (fail)
  go_wp2
  go_ret
  exact⟨rfl,aJ c _⟩
end
def RP(w:World)(r:Nat)(B:ByteArray)(off:Bool)(l:Int)(cuts:Bool):Prop:=
 w.heap[r]?=some (.cells #[.string B,.bool off,.int .i64 l,.bool cuts] 62 (0,0))
theorem RP.c0{w:World}{r:Nat}{B:ByteArray}{a b:Bool}{l:Int}(h:RP w r B a l b):w.cell? ⟨r,0,none⟩=some (.string B):=by rw[aG w r 0 _ _ _ h];rfl
theorem RP.c1{w:World}{r:Nat}{B:ByteArray}{a b:Bool}{l:Int}(h:RP w r B a l b):w.cell? ⟨r,1,none⟩=some (.bool a):=by rw[aG w r 1 _ _ _ h];rfl
theorem RP.c2{w:World}{r:Nat}{B:ByteArray}{a b:Bool}{l:Int}(h:RP w r B a l b):w.cell? ⟨r,2,none⟩=some (.int .i64 l):=by rw[aG w r 2 _ _ _ h];rfl
theorem RP.c3{w:World}{r:Nat}{B:ByteArray}{b a:Bool}{l:Int}(h:RP w r B b l a):w.cell? ⟨r,3,none⟩=some (.bool a):=by rw[aG w r 3 _ _ _ h];rfl
theorem RP.fz{w:World}{r:Nat}{B:ByteArray}{a b:Bool}{l:Int}(h:RP w r B a l b)(i:Nat):w.frozen? ⟨r,i,none⟩=false:=aK w r i _ _ h
theorem RP.s0{w:World}{r:Nat}{B:ByteArray}{a b:Bool}{l:Int}(h:RP w r B a l b)(c:ByteArray):RP (w.setCell ⟨r,0,none⟩ (.string c)) r c a l b:=by unfold RP;rw[aE w r 0 _ _ _ h];rfl
theorem RP.s1{w:World}{r:Nat}{B:ByteArray}{c a:Bool}{l:Int}(h:RP w r B c l a)(b:Bool):RP (w.setCell ⟨r,1,none⟩ (.bool b)) r B b l a:=by unfold RP;rw[aE w r 1 _ _ _ h];rfl
theorem RP.s2{w:World}{r:Nat}{B:ByteArray}{a b:Bool}{l:Int}(h:RP w r B a l b)(c:Int):RP (w.setCell ⟨r,2,none⟩ (.int .i64 c)) r B a c b:=by unfold RP;rw[aE w r 2 _ _ _ h];rfl
theorem RP.s3{w:World}{r:Nat}{B:ByteArray}{a c:Bool}{l:Int}(h:RP w r B a l c)(b:Bool):RP (w.setCell ⟨r,3,none⟩ (.bool b)) r B a l b:=by unfold RP;rw[aE w r 3 _ _ _ h];rfl
theorem RP.drew{w:World}{r:Nat}{B:ByteArray}{a b:Bool}{l:Int}(h:RP w r B a l b):RP w.drew r B a l b:=h
theorem RP.kept{S:Nat->Prop}{w w':World}{r:Nat}{B:ByteArray}{a b:Bool}{l:Int}(h:RP w r B a l b)(k:Kept S w w')(c:¬S r):RP w' r B a l b:=k.row h c
theorem po(r:Nat)(B:ByteArray)(c d:Bool)(l a n:Int)(w:World)(h:RP w r B c l d)(f:B.size<=1000)(b:a<0∨n<0∨(B.size:Int)-n<a):Calls prog 209 #[.pointer (some ⟨r,0,none⟩),.int .i64 a,.int .i64 n] w fun e w'=>e=.returned (.int .i64 2)∧w'=w:=by
 have g:=h.c0;clear h
 by_cases i:a<0
 ·clear b
  go_enter func209,ntmps209
  go_wp2
  go_ret
  exact⟨rfl,rfl⟩
 ·by_cases j:n<0
  ·clear b
   go_enter func209,ntmps209
   go_wp2
   go_ret
   exact⟨rfl,rfl⟩
  ·by_cases k:(B.size:Int)<a
   ·clear b
    go_enter func209,ntmps209
    go_wp2
    go_ret
    exact⟨rfl,rfl⟩
   ·have m:(B.size:Int)-a<n:=by omega
    clear b
    go_enter func209,ntmps209
    go_wp2
    go_ret
    exact⟨rfl,rfl⟩
theorem kH(r:Nat)(B:ByteArray)(d f:Bool)(l a n:Int)(w:World)(h:RP w r B d l f)(g:B.size<=1000)(c:¬(a<0∨n<0∨(B.size:Int)-n<a)):Calls prog 209 #[.pointer (some ⟨r,0,none⟩),.int .i64 a,.int .i64 n] w fun e w'=>e=.returned (.int .i64 (if d then 6 else 0))∧w'=w:=by
 have i:=h.c0;have j:=h.c1;have k:¬a<0:=fun b=>c (.inl b)
 have m:¬n<0:=fun b=>c (.inr (.inl b))
 have o:¬(B.size:Int)-n<a:=fun b=>c (.inr (.inr b))
 have p:¬(B.size:Int)<a:=by omega
 have q:¬(B.size:Int)-a<n:=by omega
 clear h c
 cases d with
 | true =>
  go_enter func209,ntmps209
  go_wp2
  go_ret
  exact⟨rfl,rfl⟩
 | false =>
  go_enter func209,ntmps209
  go_wp2
  go_ret
  exact⟨rfl,rfl⟩
theorem wu(v:Value)(n:Int)(w:World)(a:n<0):Calls prog 94 #[v,.int .i64 n] w fun e w'=>e=.returned (.int .i64 2)∧w'=w:=by
 go_enter func94,ntmps94
 go_wp2
 go_ret
 exact⟨rfl,rfl⟩
theorem ack(r:Nat)(B:ByteArray)(a:Bool)(l n:Int)(w:World)(h:RP w r B true l a)(b:¬n<0):Calls prog 94 #[.pointer (some ⟨r,0,none⟩),.int .i64 n] w fun e w'=>e=.returned (.int .i64 6)∧w'=w:=by
 have c:=h.c1;clear h
 go_enter func94,ntmps94
 go_wp2
 go_ret
 exact⟨rfl,rfl⟩
theorem aeh(r:Nat)(B:ByteArray)(a:Bool)(l n:Int)(w:World)(h:RP w r B false l a)(c:¬n<0):Calls prog 94 #[.pointer (some ⟨r,0,none⟩),.int .i64 n] w fun e w'=>e=.returned (.int .i64 0)∧RP w' r B false n true∧Kept (In1 r) w w':=by
 have d:=h.c1;have f:=h.c2;have g:=h.c3;have i:=h.fz 2;have j:=h.fz 3;have b:=hid ((h.s3 true).s2 n);clear h
 go_enter func94,ntmps94
 go_wp2
 go_ret
 exact⟨rfl,b,((Kept.refl _ w).set1 _ _).set1 _ _⟩
theorem aeI(r:Nat)(B:ByteArray)(a b:Bool)(l:Int)(w:World)(h:RP w r B a l b):Calls prog 90 #[.pointer (some ⟨r,0,none⟩)] w fun e w'=>e=.returned (.tuple #[])∧RP w' r B false l false∧Kept (In1 r) w w':=by
 have d:=h.c1;have f:=h.c3;have g:=h.fz 1;have i:=h.fz 3;have c:=hid ((h.s1 false).s3 false);clear h
 go_enter func90,ntmps90
 go_wp2
 go_end0
 exact⟨rfl,c,((Kept.refl _ w).set1 _ _).set1 _ _⟩
theorem tC(r:Nat)(B s:ByteArray)(b c:Bool)(l a:Int)(w:World)(h:RP w r B b l c)(d:B.size<=1000)(g:a<0∨(B.size:Int)-s.size<a):Calls prog 210 #[.pointer (some ⟨r,0,none⟩),.int .i64 a,.string s] w fun e w'=>e=.returned (.int .i64 2)∧w'=w:=by
 have f:=hid h;clear h
 go_enter func210,ntmps210
 go_wp2_with (go_at_call 209;refine(po r B b c l _ _ _ f d (by omega)).mono ?_;rintro e w' ⟨rfl,rfl⟩)
 go_ret
 exact⟨rfl,rfl⟩
theorem wn(r:Nat)(B s:ByteArray)(b:Bool)(l a:Int)(w:World)(h:RP w r B true l b)(c:B.size<=1000)(f:¬(a<0∨(B.size:Int)-s.size<a)):Calls prog 210 #[.pointer (some ⟨r,0,none⟩),.int .i64 a,.string s] w fun e w'=>e=.returned (.int .i64 6)∧w'=w:=by
 have d:=hid h;clear h
 go_enter func210,ntmps210
 go_wp2_with (go_at_call 209;refine(kH r B true b l _ _ _ d c (by omega)).mono ?_;rw[af rfl];rintro e w' ⟨rfl,rfl⟩)
 go_ret
 exact⟨rfl,rfl⟩
theorem sZ(B:ByteArray)(a:Nat)(s:ByteArray):eW B a s s.size=B.extract 0 a++s++B.extract (a+s.size) B.size:=by
 unfold eW;simp
theorem vv(r:Nat)(B s:ByteArray)(l:Int)(a:Nat)(w:World)(h:RP w r B false l false)(c:B.size<=1000)(f:a+s.size<=B.size):Calls prog 210 #[.pointer (some ⟨r,0,none⟩),.int .i64 a,.string s] w fun e w'=>e=.returned (.int .i64 0)∧RP w' r (eW B a s s.size) false l false∧Kept (In1 r) w w':=by
 have b:=hid h;have g:=h.c0;have i:=h.c1;have j:=h.c3;have k:=h.fz 0;rw[sZ];clear h
 go_enter func210,ntmps210
 go_wp2_with (go_at_call 209;refine(kH r B false false l _ _ _ b c (by omega)).mono ?_;rintro e d ⟨rfl,m⟩;subst d)
 go_region
 all_goals go_wp2
 all_goals go_ret
 all_goals exact⟨rfl,(b.s0 _).drew,((Kept.refl _ w).set1 _ _).drew⟩
theorem wm(r:Nat)(B s:ByteArray)(l:Int)(a:Nat)(w:World)(h:RP w r B false l true)(c:B.size<=1000)(f:a+s.size<=B.size)(g:(s.size:Int)<=l)(i:l<=9223372036854775807):Calls prog 210 #[.pointer (some ⟨r,0,none⟩),.int .i64 a,.string s] w fun e w'=>e=.returned (.int .i64 0)∧RP w' r (eW B a s s.size) false (l-s.size) true∧Kept (In1 r) w w':=by
 have b:=hid h;have j:=h.c0;have k:=h.c1;have m:=h.c2;have n:=h.c3;have o:=h.fz 0;have p:=h.fz 2;rw[sZ];clear h
 go_enter func210,ntmps210
 go_wp2_with (go_at_call 209;refine(kH r B false true l _ _ _ b c (by omega)).mono ?_;rintro e d ⟨rfl,q⟩;subst d)
 go_region
 all_goals go_wp2
 all_goals go_ret
 all_goals exact⟨rfl,((b.s0 _).s2 _).drew,(((Kept.refl _ w).set1 _ _).set1 _ _).drew⟩
theorem uD(r:Nat)(B s:ByteArray)(l a:Nat)(w:World)(h:RP w r B false l true)(c:B.size<=1000)(f:a+s.size<=B.size)(g:l<s.size):Calls prog 210 #[.pointer (some ⟨r,0,none⟩),.int .i64 a,.string s] w fun e w'=>e=.returned (.int .i64 6)∧RP w' r (eW B a s l) true 0 true∧Kept (In1 r) w w':=by
 have b:=hid h;have i:=h.c0;have j:=h.c1;have k:=h.c2;have m:=h.c3;have n:=h.fz 0;have o:=h.fz 1;have p:=h.fz 2;unfold eW;clear h
 go_enter func210,ntmps210
 go_wp2_with (go_at_call 209;refine(kH r B false true l _ _ _ b c (by omega)).mono ?_;rintro e d ⟨rfl,q⟩;subst d)
 go_region
 all_goals go_wp2
 all_goals go_ret
 all_goals exact⟨rfl,(((b.s1 _).s0 _).s2 _).drew,((((Kept.refl _ w).set1 _ _).set1 _ _).set1 _ _).drew⟩
theorem adB(r:Nat)(B s:ByteArray)(l a b:Int)(j f:Bool)(w:World)(h:RP w r B j b f)(n:Lk l j b f)(g:B.size<=1000):Calls prog 210 #[.pointer (some ⟨r,0,none⟩),.int .i64 a,.string s] w fun e w'=>e=.returned (.int .i64 (wC B s l a))∧(∃o p q,RP w' r (wB B s l a) o p q∧Lk (wL B s l a) o p q)∧Kept (In1 r) w w':=by
 by_cases c:ji B s a
 ·simp only[wC,wB,wL,af c]
  refine(tC r B s j f b a w h g c).mono ?_;rintro e w' ⟨rfl,rfl⟩;exact⟨rfl,⟨j,b,f,h,n⟩,Kept.refl _ _⟩
 ·rcases n with⟨rfl,rfl⟩|⟨rfl,rfl,rfl⟩|⟨rfl,rfl,rfl,x,i⟩
  ·simp only[wC,wB,wL,aa c,af]
   refine(wn r B s f b a w h g c).mono ?_;rintro e w' ⟨rfl,rfl⟩;exact⟨rfl,⟨true,b,f,h,.inl ⟨rfl,rfl⟩⟩,Kept.refl _ _⟩
  ·have k:=c
   unfold ji at k;obtain⟨d,rfl⟩:∃d:Nat,a=d:=⟨a.toNat,by omega⟩;simp only[wC,wB,wL,aa c,aa (show ¬(-1:Int)=-2 by omega),aa (show ¬((0:Int)<=-1∧(-1:Int)<(s.size:Int)) by omega),af (show(-1:Int)<0 by omega),aU];refine(vv r B s b d w h g (by omega)).mono ?_;rintro e w' ⟨rfl,i,m⟩;exact⟨rfl,⟨_,_,_,i,.inr (.inl ⟨rfl,rfl,rfl⟩)⟩,m⟩
  ·have k:=c
   unfold ji at k;obtain⟨d,rfl⟩:∃d:Nat,a=d:=⟨a.toNat,by omega⟩;obtain⟨b,rfl⟩:∃b:Nat,l=b:=⟨l.toNat,by omega⟩;simp only[wC,wB,wL,aa c,aa (show ¬(b:Int)=-2 by omega),aU,aa (show ¬(b:Int)<0 by omega)]
   by_cases t:(0:Int)<=b∧(b:Int)<s.size
   ·simp only[af t]
    refine(uD r B s b d w h g (by omega) (by omega)).mono ?_;rintro e w' ⟨rfl,i,m⟩;exact⟨rfl,⟨_,_,_,i,.inl ⟨rfl,rfl⟩⟩,m⟩
   ·simp only[aa t]
    refine(wm r B s b d w h g (by omega) (by omega) i).mono ?_;rintro e w' ⟨rfl,u,v⟩;exact⟨rfl,⟨_,_,_,u,.inr (.inr ⟨rfl,rfl,rfl,by omega,by omega⟩)⟩,v⟩
theorem ahS(r:Nat)(B:ByteArray)(l n f:Int)(i g:Bool)(w:World)(h:RP w r B i f g)(j:Lk l i f g)(q:n<=9223372036854775807):Calls prog 94 #[.pointer (some ⟨r,0,none⟩),.int .i64 n] w fun e w'=>e=.returned (.int .i64 (cC l n))∧(∃b c d,RP w' r B b c d∧Lk (cL l n) b c d)∧Kept (In1 r) w w':=by
 by_cases a:n<0
 ·simp only[cC,cL,af a]
  refine(wu _ n w a).mono ?_;rintro e w' ⟨rfl,rfl⟩;exact⟨rfl,⟨_,_,_,h,j⟩,Kept.refl _ _⟩
 ·have k:∀(m:¬l=-2),i=false->Calls prog 94 #[pV r,iV n] w fun e w'=>e=.returned (iV (cC l n))∧(∃b c d,RP w' r B b c d∧Lk (cL l n) b c d)∧Kept (In1 r) w w':=by
   rintro m rfl;simp only[cC,cL,aa a,aa m];refine(aeh r B g f n w h a).mono ?_;rintro e w' ⟨rfl,o,p⟩;exact⟨rfl,⟨_,_,_,o,.inr (.inr ⟨rfl,rfl,rfl,by omega,by omega⟩)⟩,p⟩
  rcases j with⟨rfl,rfl⟩|⟨rfl,rfl,rfl⟩|⟨rfl,rfl,rfl,s,t⟩
  ·simp only[cC,cL,aa a,af]
   refine(ack r B g f n w h a).mono ?_;rintro e w' ⟨rfl,rfl⟩;exact⟨rfl,⟨_,_,_,h,.inl ⟨rfl,rfl⟩⟩,Kept.refl _ _⟩
  ·exact k (by omega) rfl
  ·exact k (by omega) rfl
theorem ahz(r:Nat)(B:ByteArray)(l a n b:Int)(c d:Bool)(w:World)(h:RP w r B c b d)(i:Lk l c b d)(g:B.size<=1000):Calls prog 209 #[.pointer (some ⟨r,0,none⟩),.int .i64 a,.int .i64 n] w fun e w'=>e=.returned (.int .i64 (rC B l a n))∧w'=w:=by
 by_cases f:a<0∨n<0∨(B.size:Int)-n<a
 ·simp only[rC,af f]
  exact po r B c d b a n w h g f
 ·simp only[rC,aa f]
  refine(kH r B c d b a n w h g f).mono ?_;rintro e w' ⟨rfl,rfl⟩;refine⟨?_,rfl⟩;rcases i with⟨rfl,rfl⟩|⟨rfl,rfl,rfl⟩|⟨rfl,rfl,rfl,j,k⟩
  ·rfl
  ·rfl
  ·rw[aa (show ¬l=-2 by omega)];rfl
theorem iw(p:Nat)(b:Bool)(w:World)(h:aT p=b):Calls prog 85 #[.int .i64 (p:Int)] w fun e w'=>e=.returned (.bool b)∧w'=w:=by
 subst h;unfold aT
 by_cases a:p=2
 ·subst a
  go_enter func85,ntmps85
  go_wp2_with fail
  go_ret
  exact⟨rfl,rfl⟩
 ·by_cases c:p=3
  ·subst c
   go_enter func85,ntmps85
   go_wp2_with fail
   go_ret
   exact⟨rfl,rfl⟩
  ·rw[aS (by omega)]
   have d:¬(p:Int)=2:=by omega
   have f:¬(p:Int)=3:=by omega
   go_enter func85,ntmps85
   go_wp2_with fail
   go_ret
   exact⟨by simp;omega,rfl⟩
end Go.Proofs.YtaehdgemkafinaaGreatDoor
