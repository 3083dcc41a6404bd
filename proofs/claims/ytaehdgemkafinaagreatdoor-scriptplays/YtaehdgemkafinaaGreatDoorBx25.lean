/-
  On the way to SPlaysProof: O11 VM VN.
-/
import Derived.Test.YtaehdgemkafinaaGreatDoorBx24
set_option maxHeartbeats 8000000
set_option maxRecDepth 100000
namespace Go.Proofs.YtaehdgemkafinaaGreatDoor
open Go.RowKit
open Go.Proofs.Tryz
theorem qS{w:World}{ops:Array Oper}{o:Oper}{a:Act}{K:Act->World->Prop}{Q:Exit->Act->World->Prop}{E:Prop}(l:o.guard=none)(s x:Operand)(m:o.op=.call { callee:=.builtin .append,args:=#[s,x],argTypes:=#[22,22] })(base n:Nat)(v:Value)(xs:List Value)(f:Addr)(c:Nat)(F:ByteArray)(p:a.eval s=v)(q:a.eval x=.slice (some f) 1 c)(r:w.ownsRow base 9 1 v n xs)(e:∀j g,[Value.string F][j]?=some g->w.cell? (f.add j)=some g)(I:n<=1000000000000)(t:base<=w.heap.size)(h:∀b d w',w'.ownsRow base 9 1 (.slice b (n+1) d) (n+1) (xs++[Value.string F])->w.grownBy w' v.ownBlock->K (a.put o.dst (.slice b (n+1) d)) w'):if Region.wanted o (yielded ops a.tmps)=true then Oper.wp prog o a w K Q else E:=by
 have u:Region.wanted o (yielded ops a.tmps)=true:=by simp[Region.wanted,l]
 rw[af u];obtain⟨y,z,A,B,C⟩:=info_parts Tryz.infoStr;obtain⟨D,w',G,i,H,-,-⟩:=run_append_own_at (P:=prog) w base 22 o.type 9 y _ 1 16 underlying22 z A B C rfl (by decide) v n xs r f 1 c [Value.string F] rfl e (by intro g e;simp at e;subst e;rfl) (by unfold maxLen;omega) (by omega) t;obtain⟨b,d,rfl⟩:∃b d,D=.slice b (n+1) d:=by
  rcases i.2 with⟨k,J⟩|⟨L,cap,M,k,-⟩
  ·omega
  ·exact⟨_,_,k⟩
 unfold Oper.wp execOp;simp only[m,resolve,invoke,builtin,Sem.run_bind,Sem.run_pure,Result.andThen_ok,List.map_toArray,List.map_cons,List.map_nil,p,q,G];exact h b d w' i H
def evB(e:E3):Bs:=Lib.decDigits e.s.toNat++32::(Lib.decDigits e.d.toNat++32::cI e.p)
def eB(L:List E3):Bs:=if L=[]then[110,111,116,104,105,110,103]else Lib.join (L.map evB) [44,32]
def EvN(L:List E3):Prop:=∀e,e∈L->∃i d p:Nat,e=⟨i,d,p⟩∧i<=1000∧d<=1000
theorem xV{L:List E3}(h:EvN L){e:E3}(a:e∈L):(evB e).length<=100:=by
 obtain⟨b,c,d,rfl,f,g⟩:=h e a;unfold evB;have i:=Lib.nDigits_le20 b (by omega);have j:=Lib.nDigits_le20 c (by omega);have k:=ib (d:Int);simp[Lib.decDigits_length];omega
theorem uE(a:Bs)(n:Nat):∀(xs:List Bs),(∀x,x∈xs->x.length<=n)->(Lib.join xs a).length<=xs.length*(n+a.length)
 | [],_=>by simp[Lib.join_nil]
 | x::r,h=>by
  rw[Lib.join_cons];have h1:(Lib.joinTail a r).length<=r.length*(n+a.length):=by
   unfold Lib.joinTail;have:∀b:List Bs,(∀x,x∈b->x.length<=n)->((b.map (a ++ ·)).flatten).length<=b.length*(n+a.length):=fun b=>by
    induction b with
    | nil=>intro _;simp
    | cons e b f =>
     intro d;have g:=f (fun x c=>d x (List.mem_cons_of_mem _ c));have i:=d e List.mem_cons_self;simp only[List.map_cons,List.flatten_cons,aR,bq,Nat.add_mul]at *
     omega
   exact this r (fun x c=>h x (List.mem_cons_of_mem _ c))
  have g:=h x List.mem_cons_self;simp only[aR,bq,Nat.add_mul];omega
def oP(L:List E3):List Value:=L.map fun e=>Value.string (bB (evB e))
theorem zJ{L:List E3}{k:Nat}(h:k<L.length):oP (L.take (k+1))=oP (L.take k)++[Value.string (bB (evB (L[k]'h)))]:=by
 unfold oP;rw[List.take_succ_eq_append_getElem h,List.map_append];rfl
section
variable {w0 w:World} {C:Nat→Nat} {X:XB} {m pb:Nat} {zs:List Int} {V:PX} {A:Nat→Addr}
structure TeI (w1 wr:World) (ad:Option Addr) (L:List E3) (k:Nat) (u:Value):Prop where
 bel:Below w1.heap.size w1 wr
 own:wr.ownsRow w1.heap.size 9 1 u k (oP (L.take k))
theorem rM(h:WD w0 w C X zs V m)(hT:TabO w)(hp:bR w pb (az X.xb))(hN:EvN V.evs)(hl:V.evs.length<=500):Calls prog 75 #[az pb] w fun e w'=>e=.returned (.string (bB (eB V.evs)))∧Below w.heap.size w w':=by
 have F:=hid (qN h);have HT:=hid hT;have G:=hid hN;obtain⟨b,HL⟩:=nmd (V.evs);rw[HL.out]at F G hl ⊢;obtain⟨n,c⟩:=nmd (b.length);rw[c.out]at F hl;clear h hT hN
 go_enter func75,ntmps75
 go_wp2_with fail
 refine F.out.mono ?_;rintro e H ⟨v1,rfl,I,J⟩;have a2:=hid J;have b9:=hid (HT.out.later J);rw[<-c.out]at I;obtain⟨ad,cap,rfl,-,-,a3⟩:=ra I;have c0:=hid a3;rw[c.out];clear J I a3
 go_wp2_with fail
 go_loopw [3,12] (fun c1 K wr=>∃a:Nat,a<=n∧K=.int .i64 (a:Int)∧Hid (TeI H wr ad b a c1)) (fun _ K _=>n-(intOf K).toNat)
 case atStart=>exact⟨0,Nat.zero_le _,rfl,aF,World.ownsRow_nil _ _ _ _⟩
 case round =>
  obtain⟨a,hk,rfl,d⟩:=hrel;obtain⟨a4,L,hu⟩:=iI d.out.own;subst hu
  by_cases c2:a<n
  ·have c3:(a:Int)<(n:Int):=by omega
   have v:a<b.length:=by rw[c.out];exact c2
   obtain⟨d4,d5,c4,y0,y1,y2⟩:=(c0.out.later d.out.bel) a v;subst c4;obtain⟨j,k,f,l,d6,d7⟩:=G.out (b[a]'v) (List.getElem_mem v);have c5:=hid l;rw[l]at y0 y1 y2;have c6:=hid (b9.out.later d.out.bel);obtain⟨g,a5⟩:=nmd (wr.alloc (.cells #[.int .i64 (j:Int),.int .i64 (k:Int),.int .i64 (f:Int)] 180));have p:=aB wr (.cells #[.int .i64 (j:Int),.int .i64 (k:Int),.int .i64 (f:Int)] 180);have x:Below wr.heap.size wr (wr.alloc (.cells #[.int .i64 (j:Int),.int .i64 (k:Int),.int .i64 (f:Int)] 180)):=aD;rw[a5.out]at p x;have y:=hid x;have a6:=c6.out.later x;have a7:Hid (TabO g.drew):=a6;have a8:=hid p;have c7:=hid (jk j g.drew a7.out (by omega));clear l
   go_wp2_with fail
   rw[a5.out];have d8:=aG _ _ 0 _ _ _ p;have d9:=aG _ _ 1 _ _ _ p;have e0:=aG _ _ 2 _ _ _ p;have M:H.heap.size<=wr.heap.size:=d.out.bel.size;clear p x a6 y0 y1 y2
   go_region_held_law (fun N=>N.cell? ⟨wr.heap.size,0,none⟩=some (.int .i64 (j:Int))∧N.cell? ⟨wr.heap.size,1,none⟩=some (.int .i64 (k:Int))∧N.cell? ⟨wr.heap.size,2,none⟩=some (.int .i64 (f:Int))) (first|exact k2|exact k3|exact k4|exact k5|go_keep) (first
    | (go_at_call 132;(with_reducible refine(uV (f:Int) _).mono ?_);rintro e wx ⟨rfl,hx⟩;subst wx)
    | (go_at_call 64;(with_reducible refine c7.out.mono ?_);rintro e O ⟨rfl,z⟩;have P:=hid z;have q:=(z.block _ (ah a8.out)).trans a8.out;have a9:=hid q;have k2:=And.intro (aG _ _ 0 _ _ _ q) (And.intro (aG _ _ 1 _ _ _ q) (aG _ _ 2 _ _ _ q));have c8:=hid (jk k O (a7.out.later z) (by omega));clear z q)
    | (go_at_call 64;(with_reducible refine c8.out.mono ?_);rintro e B ⟨rfl,Q⟩;have R:=hid Q;have r:=(Q.block _ (ah a9.out)).trans a9.out;have b0:=hid r;have k3:=And.intro (aG _ _ 0 _ _ _ r) (And.intro (aG _ _ 1 _ _ _ r) (aG _ _ 2 _ _ _ r));clear Q r)
    | (go_at_call 131;(with_reducible refine(qY B.heap.size (Lib.decDigits j) (Lib.decDigits k) (cI (f:Int)) _ (aB B _) (oz (by omega)) (oz (by omega)) (by have:=ib (f:Int);omega)).mono ?_);rintro e i ⟨rfl,b1⟩;have S:=ao ((Below.refl B.heap.size B).alloc aj _) b1;have T:=hid S;have s:=(S.block _ (ah b0.out)).trans b0.out;have b2:=hid s;have k4:=And.intro (aG _ _ 0 _ _ _ s) (And.intro (aG _ _ 1 _ _ _ s) (aG _ _ 2 _ _ _ s));clear b1 S s)
    | (refine qS (by rfl) _ _ (by rfl) H.heap.size a (.slice a4 a L) (oP (b.take a)) ⟨i.heap.size,0,none⟩ 1 (bB (Lib.decDigits j++32::(Lib.decDigits k++32::cI (f:Int)))) (by rfl) (by rfl) (by exact dC (dC d.out.own (ao y.out (ao (show Below g.heap.size g O from((Below.refl _ g).drew).trans P.out) (ao R.out T.out))) aj) ((Below.refl i.heap.size i).alloc aj _) aj) (by exact fI i 9 _) (by omega) (by exact bc M (bc y.out.size (bc P.out.size (bc R.out.size (bc T.out.size ((Below.refl i.heap.size i).alloc aj _).size))))) ?_;intro e2 c9 w5 b3 U;have b4:=hid (And.intro b3 U);have W:=((((Below.refl i.heap.size i).alloc aj (.cells #[.string (bB (Lib.decDigits j++32::(Lib.decDigits k++32::cI (f:Int))))] 9)).block _ (ah b2.out)).trans b2.out);have D:=(U.block _ (ah W) (fun e=>by have:=(d.out.own.lt _ e.symm).2;omega)).trans W;have k5:=And.intro (aG _ _ 0 _ _ _ D) (And.intro (aG _ _ 1 _ _ _ D) (aG _ _ 2 _ _ _ D));clear b3 U D W))
   go_wp2_with fail
   go_roundw
   case rel =>
    refine⟨a+1,by omega,by go_num,?_,?_⟩
    ·have hB:=(d.out.bel.trans (y.out.mono M)).trans ((ao (show Below g.heap.size g O from((Below.refl _ g).drew).trans P.out) (ao R.out T.out)).mono (bc M y.out.size))
     have b5:=hB.trans (((Below.refl i.heap.size i).alloc aj (.cells #[.string (bB (Lib.decDigits j++32::(Lib.decDigits k++32::cI (f:Int))))] 9)).mono hB.size);exact Below.grown b5 b4.out.2 b5.size (fun d0 hy=>(d.out.own.lt d0 hy).1)
    ·have l:=zJ v
     rw[c5.out]at l;rw[l];exact b4.out.1
   case measure=>simp[intOf];omega
  ·obtain rfl:a=n:=by omega
   have c3:¬(a:Int)<(a:Int):=by omega
   have Y:=d.out.own;rw[List.take_of_length_le (Nat.le_of_eq c.out)]at Y;have b6:=hid Y;have b7:=hid (a2.out.trans (d.out.bel.mono a2.out.size));clear Y
   by_cases Z:a=0
   ·subst Z
    have HZ:Hid (eB b=[110,111,116,104,105,110,103]):=by
     change _=_;unfold eB;rw[af (List.length_eq_zero_iff.1 c.out)]
    go_wp2_with fail
    go_ret
    exact⟨by rw[HZ.out];rfl,b7.out⟩
   ·have HZ:Hid (eB b=Lib.join (b.map evB) [44,32]):=by
     change _=_;unfold eB;rw[aa (fun e=>Z (by rw[<-c.out,e];rfl))]
    have d1:¬(a:Int)=0:=by omega
    have e3:((a:Int)==0)=false:=by simpa using d1
    obtain⟨o,hg,d2,t⟩:∃o,a4=some ⟨o,0,none⟩∧a<=L∧(∀(u:Nat) E,(b.map fun e=>bB (evB e))[u]?=some E->wr.cell? ⟨o,0+u,none⟩=some (.string E))∧o<wr.heap.size:=by
     have hc:=b6.out;rcases b6.out.2 with⟨e,h0⟩|⟨o,c9,e4,e,-,t,e5,-⟩
     ·exact absurd h0 Z
     ·injection e with e1 e6 e7
      refine⟨o,e1,by omega,fun u E hj=>?_,ah t⟩;subst e1;have:=hc.cells rfl u (.string E) (by unfold oP;rw[List.getElem?_map]at hj ⊢;revert hj;cases b[u]?<;>simp)
      rw[cZ]at this;exact this
    subst hg;have a0:((b.map fun e=>bB (evB e)).map (·.data.toList))=b.map evB:=by simp
    have a1:=uE [44,32] 100 (b.map evB) (fun e8 hx=>by obtain⟨e,l,rfl⟩:=List.mem_map.1 hx;exact xV G.out l);rw[List.length_map,c.out]at a1;have HJ:=hid (tP o 0 L (b.map fun e=>bB (evB e)) ⟨#[44,32]⟩ wr t.1 t.2 (by rw[List.length_map,c.out];omega) (by rw[List.length_map,c.out];exact d2) (by rw[a0];show(Lib.join (b.map evB) [44,32]).length<=_;simp at a1;omega));rw[a0,List.length_map,c.out]at HJ;clear a0 a1 t
    go_wp2_with fail
    refine HJ.out.mono ?_;rintro e w6 ⟨rfl,b8⟩;have d3:=hid (ao b7.out b8);clear b8
    go_wp2_with fail
    go_ret
    exact⟨by rw[HZ.out];rfl,d3.out⟩
end
theorem aeR:(prog.info? 318).map (·.comparable)=some true:=by kernel_rfl
theorem adH:(prog.info? 336).map (·.size)=some 1:=by kernel_rfl
def FrF(w:World)(C:Nat->Nat)(base:Nat)(v:Value)(L:List F9):Prop:=∃ad cap,v=.slice ad L.length cap∧FL w ad L∧(L≠[]->∀p,ad=some p->2000<=C p.block∧p.block<w.heap.size∧base<=p.block)
theorem FrF.fr{w:World}{C:Nat->Nat}{base:Nat}{v:Value}{L:List F9}(h:FrF w C base v L):IsFr w v L:=by
 obtain⟨a,cap,b,c,-⟩:=h;exact⟨a,cap,b,c⟩
theorem FrF.mono{w:World}{C:Nat->Nat}{base B:Nat}{v:Value}{L:List F9}(h:FrF w C base v L)(e:B<=base):FrF w C B v L:=by
 obtain⟨f,cap,g,i,a⟩:=h;exact⟨f,cap,g,i,fun b c d=>⟨(a b c d).1,(a b c d).2.1,bc e (a b c d).2.2⟩⟩
theorem FrF.kept{w w':World}{C C':Nat->Nat}{base:Nat}{v:Value}{L:List F9}(h:FrF w C base v L)(k:Kept (di C) w w')(m:∀x,x<w.heap.size->C' x=C x):FrF w' C' base v L:=by
 obtain⟨n,cap,b,o,g⟩:=h;refine⟨n,cap,b,fun c a=>?_,fun d p q=>?_⟩
 ·obtain⟨e,r,i,s⟩:=o c a
  refine⟨e,r,i,fun f j=>?_⟩;have l:=s f j;have t:(f9L (L[c]'a))[f]?=some ((f9L (L[c]'a))[f]'(by rw[bJ];exact j)):=cG _;rw[t]at l ⊢;have d:L≠[]:=fun b=>by rw[b]at a;exact absurd a (Nat.not_lt_zero _)
  exact aI l k (fun u=>by have y:=(g d _ i).1;have z:C e<2000:=u;have A:2000<=C e:=y;omega)
 ·have:=g d p q
  exact⟨by rw[m _ this.2.1];exact this.1,bm this.2.1 k.size,this.2.2⟩
theorem FrF.nil(w:World)(C:Nat->Nat)(base:Nat):FrF w C base (.slice none 0 0) []:=⟨none,0,rfl,FL.nil _ _,fun _ b a=>by cases a⟩
theorem FrF.of_b{w:World}{C:Nat->Nat}{base:Nat}{v:Value}{L:List F9}(h:FrB base w v L)(g:∀x,base<=x->2000<=C x):FrF w C base v L:=by
 obtain⟨i,cap,j,b,c⟩:=h;refine⟨i,cap,j,b,fun k d a=>⟨g _ (c d a),?_,c d a⟩⟩
 cases L with
 | nil=>exact(k rfl).elim
 | cons x n =>
  obtain⟨o,e,l,m⟩:=b 0 (by simp);rw[l]at a;obtain rfl:=bF a;have f:=m 0 (by decide);rw[show e+0*9+0=e by omega]at f;exact bY (v:=iV x.f) (f.trans rfl)
section
variable {w0 w w':World} {C:Nat→Nat} {K:NB} {X:XB} {i m m':Nat} {zs:List Int} {N:PN} {V V':PX} {A:Nat→Addr}
def WOutF(w0 w w':World)(C:Nat->Nat)(X:XB)(zs:List Int)(V':PX)(m':Nat)(v:Value)(L:List F9):Prop:=
 ∃C' X',WD w0 w' C' X' zs V' m'∧key X'=key X∧Kept (di C) w w'∧(∀x,x<w.heap.size->C' x=C x)∧FrF w' C' w.heap.size v L
theorem ND.hear{o:POut}(h:ND w0 w C K i zs N m)(d:SP w0 w' K.s K.j K.mb K.p K.q i N.R m o.e o.over o.b o.l)(j:o.e=au o.b.data.toList)(e:Kept (In3 K.j K.p K.q) w w'):ND w0 w' C K i zs { N with B:=o.b,l:=o.l,over:=o.over } m:=by
 have s:=h.cs;have k:=h.cj;have t:=h.cm;have l:=h.cp;have n:=h.cq;have u:=h.cn;have c:∀a,C a≠100*i+3->C a≠100*i+5->C a≠100*i+6->¬In3 K.j K.p K.q a:=fun a p q r b=>by
  rcases b with rfl|rfl|rfl
  ·exact p k
  ·exact q l
  ·exact r n
 refine⟨e.row h.row (c _ (by omega) (by omega) (by omega)),?_,fun f g a b=>?_,h.cn,h.cs,h.cj,h.cm,h.cp,h.cq,h.cl,h.n0⟩
 ·rw[j]at d;exact d
 ·have v:=h.cl f g a b
  exact(h.lds f g a b).kept e (c _ (by omega) (by omega) (by omega)) (c _ (by omega) (by omega) (by omega))
theorem AnsV.frf{v:Value}{id:Nat}{f:F9}{c:Nat}{g:HOut}{base:Nat}(h:AnsV w v c id f.f f.d f.a g)(j:∀a b,v=.slice (some a) 1 b->base<=a.block)(l:∀x,base<=x->2000<=C x):FrF w C base v (if c=0∧g.k≠0 then[⟨id,f.f,f.d,g.k,f.a,g.yes,g.st.ph,g.st.pr,g.st.at_⟩]else[]):=by
 unfold AnsV at h
 split
 ·rename_i d
  rw[af d]at h;obtain⟨n,b,rfl,k⟩:=h;refine⟨_,b,rfl,fun i o=>⟨n,0,rfl,fun e q=>?_⟩,fun _ r p=>?_⟩
  ·obtain rfl:i=0:=by simpa using o
   rw[ai k];show(aeO id f.f f.d f.a g)[0+0*9+e]?=_;rw[show 0+0*9+e=e by omega,show aeO id f.f f.d f.a g=(f9L ⟨id,f.f,f.d,g.k,f.a,g.yes,g.st.ph,g.st.pr,g.st.at_⟩).toArray from rfl,List.getElem?_toArray];rfl
  ·obtain rfl:=bF p
   exact⟨l _ (j _ _ rfl),ah k,j _ _ rfl⟩
 ·rename_i d
  rw[aa d]at h;subst h;exact FrF.nil _ _ _
theorem kj{n id:Nat}{f:F9}(c:NI n N m)(d:N.l≠-2)(a:FI n f)(e:m<4000000000)(ht:f.t=id):∀x,x∈ca id N f->FI n x:=by
 intro x b;have g:=fY c d a e;unfold ca at b
 split at b
 ·rename_i l
  rw[List.mem_singleton]at b;subst b;obtain⟨o,p,q⟩:=g.good;obtain⟨h,r,j,s,k,t⟩:=a.ok;have u:(gHN N f).k<=7:=by
   unfold gHN aO
   repeat' split
   all_goals simp
  have v:=a.t0;have y:=a.t1;refine⟨by show(0:Int)<=id;omega,by show(id:Int)<n;omega,a.f0,a.f1,⟨by show(0:Int)<=id∧(id:Int)<=6;omega,h,j,?_,k,⟨?_,?_,?_⟩⟩⟩
  ·show 1<=((gHN N f).k:Int)∧((gHN N f).k:Int)<=7
   omega
  ·show 0<=((gHN N f).st.ph:Int)∧((gHN N f).st.ph:Int)<=5
   omega
  ·show 0<=((gHN N f).st.pr:Int)∧((gHN N f).st.pr:Int)<=1048576
   omega
  ·show 0<=((gHN N f).st.at_:Int)∧((gHN N f).st.at_:Int)<=1048576
   omega
 ·cases b
theorem adq{id:Nat}{f:F9}:(ca id N f).length<=1:=by
 unfold ca
 split
 ·exact aj
 ·exact Nat.zero_le _
theorem ahY(A:Nat->Addr):ev A 0=.nilIface:=rfl
theorem aiH(A:Nat->Addr):ev A 6=.iface 318 (.pointer (some (A 5))):=rfl
theorem ahN(a:Addr)(w:World):(binOp .eql 25 .nilIface (.iface 318 (.pointer (some a)))).run prog w=.ok (.bool false) w:=by
 first|rfl|go_simp
theorem aiF(a:Addr)(w:World):(binOp .eql 25 (.iface 318 (.pointer (some a))) (.iface 318 (.pointer (some a)))).run prog w=.ok (.bool true) w:=by
 obtain⟨i,b,c⟩:=Option.map_eq_some_iff.1 aeR;obtain⟨e,d,f⟩:=Option.map_eq_some_iff.1 adH;exact run_eql_iface_ptr_same (P:=prog) w a underlying25 underlying318 b c d
theorem rY(N:PN)(f:F9):(aM N f).B=(oHN N f).b:=by unfold aM;split<;>rfl
theorem xx{N:PN}{f:F9}(h:(oHN N f).c=0):aM N f={ N with B:=(oHN N f).b,l:=(oHN N f).l,over:=(oHN N f).over }:=by unfold aM;rw[aa (by omega)]
theorem xn{N:PN}{f:F9}(h:(oHN N f).c=6):aM N f=gQ { N with B:=(oHN N f).b,l:=(oHN N f).l,over:=(oHN N f).over }:=by unfold aM;rw[af h];rfl
def frN(f t d k a:Nat)(y:Bool)(ph pr pa:Nat):F9:=⟨f,t,d,k,a,y,ph,pr,pa⟩
theorem np(f d k a ph pr pa:Nat)(y:Bool)(F:F9)(hF:F=frN f i d k a y ph pr pa)(h:WD w0 w C X zs V m)(hE:Held9 w0 A)(hi:i<zs.length)(hu:(V.nd i).l≠-2)(hf:FI zs.length F)(hm:m<1000000):Calls prog 165 #[.pointer (some ⟨X.xb,0,none⟩),frV (f:Int) (i:Int) (d:Int) (k:Int) (a:Int) y (ph:Int) (pr:Int) (pa:Int)] w fun e w'=>∃v,e=.returned v∧WOutF w0 w w' C X zs (aQ V i F) (m+2) v (ca i (V.nd i) F):=by
 have hd:d<6:=by have:=hf.ok.2.2.1;rw[hF]at this;have:(0:Int)<=d∧(d:Int)<=5:=this;omega
 obtain⟨Y,HW⟩:=nmd (w.alloc (.cells #[.int .i64 (f:Int),.int .i64 (i:Int),.int .i64 (d:Int),.int .i64 (k:Int),.int .i64 (a:Int),.bool y,.int .i64 (ph:Int),.int .i64 (pr:Int),.int .i64 (pa:Int)] 125));have HB:Hid (Below w.heap.size w Y):=by rw[<-HW.out];exact aD
 have HR:Hid (Y.heap[w.heap.size]?=some (.cells #[.int .i64 (f:Int),.int .i64 (i:Int),.int .i64 (d:Int),.int .i64 (k:Int),.int .i64 (a:Int),.bool y,.int .i64 (ph:Int),.int .i64 (pr:Int),.int .i64 (pa:Int)] 125 (0,0))):=by rw[<-HW.out];exact aB w _
 obtain⟨r,s,p,t,u,x,z,B,D⟩:=bH HR.out;have l:=hid h;have H1:=hid (h.later HB.out);have HE:=hid hE;have c:=hid hi;have HU:=hid hu;have b7:=hid hf;have Z:=hid hF;obtain⟨-,c1,-,-,-⟩:=H1.out.cells;have d2:=H1.out.ns i hi;have H:=(H1.out.nds i hi).site;obtain⟨b8,d3⟩:=nmd (zs.length);have n7:=h.n7;rw[d3.out]at c1 hi n7;obtain⟨⟨n,M,O⟩,a6⟩:∃b,Hid (stN (V.nd i) d=b):=⟨_,rfl⟩;have b9:Hid ((dlN (V.nd i) d).2=⟨n,M,O⟩):=a6.out;have e3:∀w,(Instr.field 80 (.agg #[.int .i64 (n:Int),.int .i64 (M:Int),.int .i64 (O:Int)]) 0).run prog w=.ok (.int .i64 (n:Int)) w:=fun w=>mw _ _ _ w
 have hW:=HW.out;clear h hE hu hf hF
 go_enter func165,ntmps165
 go_wp2_with fail
 go_quiet (fail)
 rename_i nq
 obtain⟨W2,a7⟩:=nmd (Y.drewN nq);have a8:Hid (Below w.heap.size w W2):=by rw[<-a7.out];exact aJ HB.out nq
 have c0:=a7.out;rw[c0];clear c0 r s p t u x z B D c1 d2 H hW;have a9:Hid (W2.heap[w.heap.size]?=some (.cells #[.int .i64 (f:Int),.int .i64 (i:Int),.int .i64 (d:Int),.int .i64 (k:Int),.int .i64 (a:Int),.bool y,.int .i64 (ph:Int),.int .i64 (pr:Int),.int .i64 (pa:Int)] 125 (0,0))):=by rw[<-a7.out];exact HR.out
 obtain⟨r,s,p,t,u,x,z,B,D⟩:=bH a9.out;have H2:=hid (l.out.later a8.out);have H:=(H2.out.nds i c.out).site
 go_wp2_with fail
 go_region_held3 (fun V=>V.cell? ⟨(X.K i).nd,0,none⟩=some (.pointer (some ⟨(X.K i).s,0,none⟩))∧V.cell? ⟨w.heap.size,2,none⟩=some (.int .i64 (d:Int))) (go_keep) (first|(go_at_call 108;(with_reducible refine(kM d n M O (H2.out.drew.nds i c.out).sp.jp.jr (H2.out.drew.nds i c.out).sp.sr hd b9.out).mono ?_);rintro e w3 ⟨rfl,a0⟩;have q1:=ag a0 H;have q2:=ag a0 p;have a1:=hid (a8.out.drew.trans (a0.mono a8.out.size));have c2:=hid ((a0.block _ (ah a9.out)).trans a9.out);clear a0))
 go_wp2_with fail
 clear q1 q2 H r s p t u x z B D a9 H2 a8 a7;obtain⟨r,s,p,t,u,x,z,B,D⟩:=bH c2.out;have o:=hid (l.out.later a1.out);have H:=(o.out.nds i c.out).site;have q:Hid (∀b,w.heap.size<=b->¬In3 (X.K i).j (X.K i).p (X.K i).q b):=fun b g e=>by
  obtain⟨_,_,e4,e5,e6⟩:=(l.out.nds i c.out).sp.lts;unfold In3 at e;omega
 have d4:Hid (¬In3 (X.K i).j (X.K i).p (X.K i).q (X.K i).nd):=fun e=>by
  have g1:=(l.out.nds i c.out).cn;have g2:=(l.out.nds i c.out).cj;have g3:=(l.out.nds i c.out).cp;have g4:=(l.out.nds i c.out).cq;rcases e with e|e|e<;>(rw[e]at g1;omega)
 have HH:=hid (fY (l.out.inv.nd i c.out) HU.out b7.out (by omega));have b0:F.d.toNat=d:=by rw[Z.out];exact aU d
 obtain⟨E,HG⟩:=nmd (gHN (V.nd i) F);obtain⟨I,J⟩:=nmd (oHN (V.nd i) F);have d5:Hid (aO (dlN (V.nd i) d).2 ((V.nd i).R d) k a ph=E):=by rw[<-HG.out,Z.out];rfl
 have d6:Hid (ig (dlN (V.nd i)) (V.nd i).over (V.nd i).B (V.nd i).l d E.st.ph E.st.pr E.st.at_=I):=by rw[<-J.out,<-HG.out,Z.out];rfl
 have d7:Hid (mA f i d k a ph pr pa):=by have:=b7.out.ok;rw[Z.out]at this;exact this
 have d8:Hid (∀e,e<6->((dlN (V.nd i)) e).1<4294967296):=fun e he=>by have:=(l.out.inv.nd i c.out).nm e he;omega
 go_region_held3 (fun V=>V.cell? ⟨(X.K i).nd,0,none⟩=some (.pointer (some ⟨(X.K i).s,0,none⟩))∧V.cell? ⟨w.heap.size,0,none⟩=some (.int .i64 (f:Int))∧V.cell? ⟨w.heap.size,1,none⟩=some (.int .i64 (i:Int))∧V.cell? ⟨w.heap.size,2,none⟩=some (.int .i64 (d:Int))∧V.cell? ⟨w.heap.size,3,none⟩=some (.int .i64 (k:Int))∧V.cell? ⟨w.heap.size,4,none⟩=some (.int .i64 (a:Int))∧V.cell? ⟨w.heap.size,5,none⟩=some (.bool y)∧V.cell? ⟨w.heap.size,6,none⟩=some (.int .i64 (ph:Int))∧V.cell? ⟨w.heap.size,7,none⟩=some (.int .i64 (pr:Int))∧V.cell? ⟨w.heap.size,8,none⟩=some (.int .i64 (pa:Int))) (go_keep) (first|(go_at_call 190;(with_reducible refine(acy A w0 _ (X.K i).s (X.K i).j (X.K i).mb (X.K i).p (X.K i).q m i f d k a ph pr pa y (V.nd i).R (dlN (V.nd i)) (V.nd i).over (V.nd i).B (V.nd i).l E I (o.out.drew.nds i c.out).sp HE.out.toE d8.out d7.out d5.out d6.out).mono ?_);rintro e P ⟨v,rfl,c3,c4,j,c5⟩;have c6:=hid (j.row c2.out (q.out _ aj));have q0:=bG j H d4.out;have q1:=bG j r (q.out _ aj);have q2:=bG j s (q.out _ aj);have q3:=bG j p (q.out _ aj);have q4:=bG j t (q.out _ aj);have q5:=bG j u (q.out _ aj);have q6:=bG j x (q.out _ aj);have q7:=bG j z (q.out _ aj);have q8:=bG j B (q.out _ aj);have q9:=bG j D (q.out _ aj);have Q:=hid (And.intro c3 (And.intro c4 (And.intro j c5)));clear c3 c4 j c5))
 clear q0 q1 q2 q3 q4 q5 q6 q7 q8 q9 r s p t u x z B D H;have d9:Hid (I.e=au I.b.data.toList):=by have:=HH.out.e;rw[J.out]at this;rw[this];unfold dlN;rw[rY,J.out];exact rfl
 have c7:=hid ((o.out.drew.nds i c.out).hear Q.out.2.1 d9.out Q.out.2.2.1);have a2:Hid (Kept (fun b=>C b / 100=i) w3 P):=(Kept.refl _ w3).drew.trans (Q.out.2.2.1.mono (o.out.drew.nds i c.out).in3);have e0:=hid (HE.out.later Q.out.2.1.jp.bel);have b2:Hid (FrF P C w.heap.size v (ca i (V.nd i) F)):=by
  have:=AnsV.frf (w:=P) (C:=C) (id:=i) (f:=F) (g:=E) (c:=I.c) (base:=w3.heap.size) (v:=v) (by rw[Z.out];exact Q.out.1) Q.out.2.2.2 (fun b g=>by rcases bU (C b) 2000 with b3|b3;(have:=o.out.lt b b3;omega);exact b3)
  unfold ca;rw[HG.out,J.out];exact this.mono a1.out.size
 have g5:=e0.out.g5;obtain⟨r,s,p,t,u,x,z,B,D⟩:=bH c6.out;have e7:i<=9:=by have:=l.out.n7.2;have:=c.out;omega
 rcases HH.out.c with G|G
 ·have c8:=xx G
  rw[J.out]at G c8;rw[G,ahY];have a3:=o.out.node a2.out c.out (fun b g=>g) (fun _ _=>rfl) (fun b g b4=>by have:=o.out.lt b b4;omega) (K:=X.K i) (m':=m+1) (N:=aM (V.nd i) F) (by rw[c8];exact c7.out.mono (aP _)) rfl (aP _) (o.out.inv.node HH.out.ni (aP _));have R:=hid a3;clear a3;have hq:∀w,(binOp .eql 25 .nilIface (.iface 318 (.pointer (some (A 5))))).run prog w=.ok (.bool false) w:=fun w=>ahN _ w
  obtain⟨⟨S,u2,u3⟩,T⟩:∃b,Hid (stN (aM (V.nd i) F) d=b):=⟨_,rfl⟩;have b1:Hid (stN ((aA V i (aM (V.nd i) F)).nd i) d=⟨S,u2,u3⟩):=by unfold aA;simp only[if_true];exact T.out
  by_cases U:S≠n∧aT S=true∧V.evs.length<500
  ·have b5:=hid U
   have HX:Hid (aQ V i F={ aA V i (aM (V.nd i) F)with evs:=V.evs++[⟨i,d,S⟩] }):=by
    unfold aQ noteE;rw[b0,a6.out,T.out,af U];exact rfl
   clear U
   go_wp2_with (go_at_call 125;(refine(adP i d n S u2 u3 R.out c.out hd b1.out b5.out).mono ?_);rintro e w5 ⟨rfl,a4⟩;have a5:=hid a4;clear a4)
   go_ret
   refine⟨_,rfl,?_⟩;rw[HX.out];obtain⟨C',X',x1,x2,x3,x4⟩:=a5.out;have W:Kept (di C) w P:=(Kept.of_below a1.out).trans (a2.out.mono (fun b g=>by show C b<2000;omega));exact⟨C',X',x1,x2.trans (lf rfl),W.trans x3,fun b g=>x4 b (bm g W.size),b2.out.kept x3 x4⟩
  ·have b5:=hid U
   have HX:Hid (aQ V i F=aA V i (aM (V.nd i) F)):=by
    unfold aQ noteE;rw[b0,a6.out,T.out,aa U];exact rfl
   clear U
   go_wp2_with (go_at_call 125;(refine(pL i d n S u2 u3 R.out c.out hd b1.out b5.out).mono ?_);rintro e w5 ⟨rfl,a4⟩;have a5:=hid a4;clear a4)
   go_ret
   refine⟨_,rfl,?_⟩;rw[HX.out];have W:Kept (di C) w P:=(Kept.of_below a1.out).trans (a2.out.mono (fun b g=>by show C b<2000;omega));exact⟨C,_,(R.out.later a5.out).mono (aP _),lf rfl,W.trans (Kept.of_below a5.out),fun _ _=>rfl,b2.out.kept (Kept.of_below a5.out) (fun _ _=>rfl)⟩
 ·have c9:=xn G
  rw[J.out]at G c9;rw[G,aiH];have hq:∀w,(binOp .eql 25 (.iface 318 (.pointer (some (A 5)))) (.iface 318 (.pointer (some (A 5))))).run prog w=.ok (.bool true) w:=fun w=>aiF _ w
  go_wp2_with fail
  refine(vf c7.out).mono ?_;rintro e w5 ⟨rfl,d0,L⟩;have a3:=o.out.node (a2.out.trans L) c.out (fun b g=>g) (fun _ _=>rfl) (fun b g b4=>by have:=o.out.lt b b4;omega) (K:=X.K i) (m':=m+1) (N:=aM (V.nd i) F) (by rw[c9];exact d0.mono (aP _)) rfl (aP _) (o.out.inv.node HH.out.ni (aP _));have R:=hid a3;have e1:=hid L;have e2:=hid (L.row c6.out (fun e=>by have:=l.out.lt w.heap.size (by omega);omega));clear a3 d0 L r s p t u x z B D;obtain⟨r,s,p,t,u,x,z,B,D⟩:=bH e2.out;have T:Hid (stN (aM (V.nd i) F) d=⟨n,M,O⟩):=by have:=HH.out.no (by rw[J.out];exact G);rw[b0]at this;unfold stN;rw[this];exact b9.out
  have b1:Hid (stN ((aA V i (aM (V.nd i) F)).nd i) d=⟨n,M,O⟩):=by unfold aA;simp only[if_true];exact T.out
  have HX:Hid (aQ V i F=aA V i (aM (V.nd i) F)):=by
   unfold aQ noteE;rw[b0,a6.out,T.out,aa (fun h=>h.1 rfl)];exact rfl
  go_wp2_with (go_at_call 125;(refine(pL i d n n M O R.out c.out hd b1.out (fun h=>h.1 rfl)).mono ?_);rintro e w6 ⟨rfl,d1⟩;have b6:=hid d1;clear d1)
  go_ret
  refine⟨_,rfl,?_⟩;rw[HX.out];have L:Kept (di C) P w5:=e1.out.mono (fun b g=>by show C b<2000;omega);have W:Kept (di C) w w5:=((Kept.of_below a1.out).trans (a2.out.mono (fun b g=>by show C b<2000;omega))).trans L;exact⟨C,_,(R.out.later b6.out).mono (aP _),lf rfl,W.trans (Kept.of_below b6.out),fun _ _=>rfl,(b2.out.kept L (fun _ _=>rfl)).kept (Kept.of_below b6.out) (fun _ _=>rfl)⟩
end
theorem Held9.to3{w:World}{A:Nat->Addr}(h:Held9 w A):Held3 w A:=fun a c d=>by
 have b:a=1∨a=2∨a=3:=by omega
 rcases b with rfl|rfl|rfl
 ·exact h.var 1 (by decide)
 ·exact h.var 2 (by decide)
 ·exact h.var 3 (by decide)
theorem abG{P:PL}{p M:Int}(h0:0<=P.seen)(h1:P.seen<=M)(a:0<=p)(b:p<=M):0<=(dI P p).seen∧(dI P p).seen<=M:=by
 unfold dI
 split
 ·exact⟨a,b⟩
 ·exact⟨h0,h1⟩
theorem mN{zs:List Int}{id:Nat}{deal att:Int}{P:PL}{f:F9}{M:Int}(h0:0<=P.seen)(h1:P.seen<=M)(c:0<=f.pr)(d:f.pr<=M):0<=(aL zs id deal att P f).1.seen∧(aL zs id deal att P f).1.seen<=M:=by
 have b:(cP P f).seen=P.seen:=rfl;have a:=abG (P:=cP P f) (p:=f.pr) (M:=M) (by rw[b];exact h0) (by rw[b];exact h1) c d;unfold aL
 split
 ·unfold cO
  split
  ·unfold gh
   split
   ·exact⟨h0,h1⟩
   ·split
    ·exact⟨h0,h1⟩
    ·exact⟨h0,h1⟩
  ·split
   ·exact a
   ·split
    ·unfold gj
     split
     ·exact a
     ·split
      ·exact a
      ·exact a
    ·unfold im
     split
     ·exact a
     ·exact a
 ·exact⟨h0,h1⟩
theorem adh{zs:List Int}{id:Nat}{deal att:Int}{P:PL}{f:F9}{x:Int×Int}(h:(aL zs id deal att P f).2=some x):(x.1=7∨x.1=5)∧0<=x.2∧x.2<=5:=by
 unfold aL at h
 split at h
 ·unfold cO at h
  split at h
  ·unfold gh at h
   split at h
   ·obtain rfl:=bF h;exact⟨.inl rfl,by decide,by decide⟩
   ·split at h
    ·obtain rfl:=bF h;exact⟨.inr rfl,by decide,by decide⟩
    ·cases h
  ·split at h
   ·cases h
   ·split at h
    ·unfold gj at h
     split at h
     ·cases h
     ·generalize a:cD _=b at h
      have:=wN (dL (dI (cP P f) f.pr).told f.f.toNat ⟨f.ph,f.pr,f.pa⟩);rw[a]at this
      split at h
      ·obtain rfl:=bF h
       refine⟨.inl rfl,?_⟩;rcases this with rfl|rfl|rfl|rfl<;>exact⟨by decide,by decide⟩
      ·obtain rfl:=bF h
       refine⟨.inr rfl,?_⟩;rcases this with rfl|rfl|rfl|rfl<;>exact⟨by decide,by decide⟩
    ·unfold im at h
     split at h
     ·cases h
     ·obtain rfl:=bF h
      refine⟨.inl rfl,?_⟩;show 0<=eN _∧eN _<=5;unfold eN
      split
      ·decide
      ·split<;>decide
 ·cases h
theorem kI{n:Nat}{id d:Nat}{k a ph:Int}(hid:id<n)(h:n<=7)(i:d<6)(c:1<=k∧k<=7)(e:0<=a∧a<=1048576)(g:0<=ph∧ph<=5):∀m,m<=n->∀f,f∈toL id d k a ph m->FI n f
 | 0,_,f,b=>by cases b
 | m+1,j,f,b=>by
  rw[toL,List.mem_append]at b;rcases b with b|b
  ·exact kI hid h i c e g m (by omega) f b
  ·rw[List.mem_singleton]at b
   subst b;refine⟨by show(0:Int)<=id;omega,by show(id:Int)<n;omega,by show(0:Int)<=m;omega,by show(m:Int)<n;omega,⟨?_,?_,?_,c,e,g,by show(0:Int)<=0∧(0:Int)<=1048576;decide,by show(0:Int)<=0∧(0:Int)<=1048576;decide⟩⟩
   ·show(0:Int)<=id∧(id:Int)<=6;omega
   ·show(0:Int)<=m∧(m:Int)<=6;omega
   ·show(0:Int)<=d∧(d:Int)<=5;omega
theorem lV{zs:List Int}{id d:Nat}{att:Int}{P:PL}{f:F9}(hid:id<zs.length)(c:zs.length<=7)(e:d<6)(g:0<=att∧att<=1048576):∀x,x∈dm id d att zs.length (aL zs id d att P f).2->FI zs.length x:=by
 intro x a
 cases b:(aL zs id d att P f).2 with
 | none=>rw[b]at a;cases a
 | some h =>
  rw[b]at a;have:=adh b;exact kI hid c e (by omega) g this.2 _ aj x a
section
variable {w0 w w':World} {C:Nat→Nat} {K:NB} {X:XB} {i m m':Nat} {zs:List Int} {N:PN} {V V':PX} {A:Nat→Addr}
theorem ahx{d e:Nat}{x y:Int×PL}(h:N.ld d=some x):ldV K (aC N d y) e=ldV K N e:=by
 unfold ldV aC
 by_cases a:e=d
 ·subst a;simp[h]
 ·simp[a]
theorem ND.leadHear{d:Nat}{x:Int×PL}{P:PL}(h:ND w0 w C K i zs N m)(n:d<6)(k:N.ld d=some x)(o:LD w' (K.lb d) (K.b d) (K.cap d) i d x.1 zs P)(l:Kept (In1 (K.lb d)) w w')(p:w0.heap.size<=K.lb d):ND w0 w' C K i zs (aC N d (x.1,P)) m:=by
 have t:=h.cs;have u:=h.cj;have v:=h.cm;have y:=h.cp;have z:=h.cq;have B:=h.cn;have q:=h.cl d n x k;have f:∀a,C a≠100*i+10+d->¬In1 (K.lb d) a:=fun a c b=>by rw[show a=K.lb d from b]at c;exact c q.1
 have r:∀a,In1 (K.lb d) a->w0.heap.size<=a:=fun a b=>by rw[show a=K.lb d from b];exact p
 have s:ndC K (aC N d (x.1,P))=ndC K N:=by unfold ndC;simp only[ahx k]
 refine⟨by rw[s];exact l.row h.row (f _ (by omega)),h.sp.far l r (fun a b=>f a (by rcases b with rfl|rfl|rfl<;>omega)) (f _ (by omega)) (f _ (by omega)),fun e g a b=>?_,h.cn,h.cs,h.cj,h.cm,h.cp,h.cq,fun e g a b=>?_,h.n0⟩
 ·by_cases c:e=d
  ·subst c
   have j:(x.1,P)=a:=by simpa [aC]using b
   subst j;exact o
  ·have j:N.ld e=some a:=by simpa [aC,c]using b
   have D:=h.cl e g a j;exact(h.lds e g a j).kept l (f _ (by omega)) (f _ (by omega))
 ·by_cases c:e=d
  ·subst c;exact h.cl e g x k
  ·exact h.cl e g a (by simpa [aC,c]using b)
theorem NI.leadHear{n d:Nat}{x:Int×PL}{P:PL}(h:NI n N m)(f:N.ld d=some x)(h1:P.stt<4)(g:0<=P.seen∧P.seen<=1048576)(j:PW n P):NI n (aC N d (x.1,P)) m:=by
 refine⟨h.gd,h.nm,h.sz,h.up,h.l0,h.l1,fun a b c=>?_⟩
 by_cases e:a=d
 ·subst e
  have k:(x.1,P)=b:=by simpa [aC]using c
  subst k;have:=h.ld a x f;exact⟨this.1,this.2.1,h1,g,j⟩
 ·exact h.ld a b (by simpa [aC,e]using c)
theorem ug{j e:World}{d:Nat}{x:Int×PL}{F:F9}{v:Value}(h:WD w0 w C X zs V m)(k:Below w.heap.size w j)(f:i<zs.length)(o:d<6)(b:(V.nd i).ld d=some x)(t:FrB j.heap.size e v (dm i d x.1 zs.length (aL zs i d x.1 x.2 F).2))(p:LD e ((X.K i).lb d) ((X.K i).b d) ((X.K i).cap d) i d x.1 zs (aL zs i d x.1 x.2 F).1)(q:Kept (In1 ((X.K i).lb d)) j e)(u:FI zs.length F):WOutF w0 w e C X zs (dH zs V i d F) (m+1) v (dq zs V i d F):=by
 have g:=h.later k;have G:=(g.nds i f).cl d o x b;have y:w0.heap.size<=(X.K i).lb d:=h.low _ (by have:=h.n7.2;omega);have l:=(h.inv.nd i f).ld d x b;have r:=u.ok.2.2.2.2.2.2.1;have s:Kept (fun a=>C a / 100=i) j e:=q.mono (fun a c=>by rw[show a=_ from c];show C _ / 100=i;omega);have z:=(h.inv.nd i f).leadHear b (tN l.2.2.1) (mN (zs:=zs) (id:=i) (deal:=d) (att:=x.1) l.2.2.2.1.1 l.2.2.2.1.2 r.1 r.2) p.pw;have B:dH zs V i d F=aA V i (aC (V.nd i) d (x.1,(aL zs i d x.1 x.2 F).1)):=by unfold dH;rw[b]
 have D:dq zs V i d F=dm i d x.1 zs.length (aL zs i d x.1 x.2 F).2:=by unfold dq;rw[b]
 rw[B,D];have H:=h.n7.2;refine⟨C,_,g.node s f (fun a c=>c) (fun _ _=>rfl) (fun a c E=>by have:=g.lt a E;omega) (((g.nds i f).leadHear o b p q y).mono (aP _)) rfl (aP _) (g.inv.node (z.mono (aP _)) (aP _)),lf rfl,(Kept.of_below k).trans (s.mono (fun a c=>by show C a<2000;omega)),fun _ _=>rfl,(FrF.of_b t (fun a c=>?_)).mono k.size⟩;rcases bU (C a) 2000 with n|n
 ·have:=h.lt a n
  have:=k.size;omega
 ·exact n
theorem wJ(f d k a ph pr pa:Nat)(y:Bool)(p:(V.nd i).ld d=none)(h:WD w0 w C X zs V m)(q:Held9 w0 A)(c:i<zs.length)(r:FI zs.length (frN f i d k a y ph pr pa))(g:((k:Int)==2)=true∨(((k:Int)==2)=false∧((k:Int)==4)=true)∨(((k:Int)==2)=false∧((k:Int)==4)=false∧((k:Int)==6)=true))(P:d<6):Calls prog 116 #[.pointer (some ⟨X.xb,0,none⟩),frV (f:Int) (i:Int) (d:Int) (k:Int) (a:Int) y (ph:Int) (pr:Int) (pa:Int)] w fun e w'=>∃v,e=.returned v∧WOutF w0 w w' C X zs V (m+1) v []:=by
 obtain⟨b,l⟩:=nmd (w.alloc (.cells #[iV (f:Int),iV (i:Int),iV (d:Int),iV (k:Int),iV (a:Int),.bool y,iV (ph:Int),iV (pr:Int),iV (pa:Int)] 125));have s:Hid (bW w b):=by rw[<-l.out];exact aD
 have t:Hid (b.heap[w.heap.size]?=some (.cells #[iV (f:Int),iV (i:Int),iV (d:Int),iV (k:Int),iV (a:Int),.bool y,iV (ph:Int),iV (pr:Int),iV (pa:Int)] 125 (0,0))):=by rw[<-l.out];exact aB w _
 obtain⟨u,x,z,B,D,E,F,G,H⟩:=bH t;have Q:=hid h;have n:=hid (h.later s);have Z:=hid q;have HI:=hid c;have a0:=hid r;obtain⟨-,I,-,-,-⟩:=n.cells;have R:=n.ns i c;have J:=(n.nds i c).lead P;obtain⟨L,S⟩:=nmd (zs.length);have T:=h.n7;rw[S.out]at I c T;have U:=l.out;rw[kJ p]at J;clear h q r p;rcases g with g|g|g
 all_goals
  go_enter func116,ntmps116
  go_wp2_with fail
  go_quiet (fail)
  rename_i nq
  obtain⟨j,o⟩:=nmd (b.drewN nq);have M:Hid (bW w j):=by rw[<-o.out];exact aJ s nq
  have O:=o.out;rw[O];have W:Hid (j.heap[w.heap.size]?=some (.cells #[iV (f:Int),iV (i:Int),iV (d:Int),iV (k:Int),iV (a:Int),.bool y,iV (ph:Int),iV (pr:Int),iV (pa:Int)] 125 (0,0))):=by rw[<-o.out];exact t
  clear O u x z B D E F G H I R J U;obtain⟨u,x,z,B,D,E,F,G,H⟩:=bH W;have Y:=hid (Q.later M)
  go_wp2_with fail
  go_ret
  refine⟨_,rfl,?_⟩;exact⟨C,X,Y.mono (aP _),rfl,Kept.of_below M,fun _ _=>rfl,FrF.nil _ _ _⟩
theorem wR(f d k a ph pr pa:Nat)(y:Bool)(x:Int×PL)(g:(V.nd i).ld d=some x)(h:WD w0 w C X zs V m)(t:Held9 w0 A)(b:i<zs.length)(u:FI zs.length (frN f i d k a y ph pr pa))(j:((k:Int)==2)=true∨(((k:Int)==2)=false∧((k:Int)==4)=true)∨(((k:Int)==2)=false∧((k:Int)==4)=false∧((k:Int)==6)=true))(n:d<6):Calls prog 116 #[.pointer (some ⟨X.xb,0,none⟩),frV (f:Int) (i:Int) (d:Int) (k:Int) (a:Int) y (ph:Int) (pr:Int) (pa:Int)] w fun e w'=>∃v,e=.returned v∧WOutF w0 w w' C X zs (dH zs V i d (frN f i d k a y ph pr pa)) (m+1) v (dq zs V i d (frN f i d k a y ph pr pa)):=by
 obtain⟨c,o⟩:=nmd (w.alloc (.cells #[iV (f:Int),iV (i:Int),iV (d:Int),iV (k:Int),iV (a:Int),.bool y,iV (ph:Int),iV (pr:Int),iV (pa:Int)] 125));have z:Hid (bW w c):=by rw[<-o.out];exact aD
 have B:Hid (c.heap[w.heap.size]?=some (.cells #[iV (f:Int),iV (i:Int),iV (d:Int),iV (k:Int),iV (a:Int),.bool y,iV (ph:Int),iV (pr:Int),iV (pa:Int)] 125 (0,0))):=by rw[<-o.out];exact aB w _
 obtain⟨D,E,F,G,H,I,J,L,M⟩:=bH B;have p:=hid h;have q:=hid (h.later z);have HE:=hid t;have O:=hid b;have a2:=hid u;obtain⟨-,P,-,-,-⟩:=q.cells;have c2:=q.ns i b;have Q:=(q.nds i b).lead n;obtain⟨R,S⟩:=nmd (zs.length);have n7:=h.n7;rw[S.out]at P b n7;have hW:=o.out;have T:=hid g;have HP:=hid ((h.inv.nd i (by rw[S.out];exact b)).ld d x g).2.2.1;rw[mx g]at Q;clear h t u g;rcases j with j|j|j
 all_goals
  go_enter func116,ntmps116
  go_wp2_with fail
  go_quiet (fail)
  rename_i nq
  obtain⟨l,r⟩:=nmd (c.drewN nq);have U:Hid (bW w l):=by rw[<-r.out];exact aJ z nq
  have W:=r.out;rw[W];have a3:Hid (l.heap[w.heap.size]?=some (.cells #[iV (f:Int),iV (i:Int),iV (d:Int),iV (k:Int),iV (a:Int),.bool y,iV (ph:Int),iV (pr:Int),iV (pa:Int)] 125 (0,0))):=by rw[<-r.out];exact B
  clear W D E F G H I J L M P c2 Q hW;obtain⟨D,E,F,G,H,I,J,L,M⟩:=bH a3;have Y:=hid (p.later U)
  go_wp2_with fail
  refine(qn A (f:Int) (i:Int) (d:Int) (k:Int) (a:Int) y (ph:Int) (pr:Int) (pa:Int) p.inv.he HP (Y.held HE).to3 ((Y.nds i O).lds d n x T)).mono ?_;rintro e w3 ⟨v,rfl,Z,a0,a1⟩;have s:=hid (And.intro Z (And.intro a0 a1));clear Z a0 a1
  go_wp2_with fail
  go_ret
  refine⟨_,rfl,?_⟩;exact ug p U O n T s.1 s.2.1 s.2.2 a2
theorem wo(f d k a ph pr pa:Nat)(y:Bool)(h:WD w0 w C X zs V m)(n:Held9 w0 A)(b:i<zs.length)(o:FI zs.length (frN f i d k a y ph pr pa))(p:((k:Int)==2)=false∧((k:Int)==4)=false∧((k:Int)==6)=false)(t:d<6)(q:(V.nd i).l≠-2)(u:m<1000000):Calls prog 116 #[.pointer (some ⟨X.xb,0,none⟩),frV (f:Int) (i:Int) (d:Int) (k:Int) (a:Int) y (ph:Int) (pr:Int) (pa:Int)] w fun e w'=>∃v,e=.returned v∧WOutF w0 w w' C X zs (aQ V i (frN f i d k a y ph pr pa)) (m+2) v (ca i (V.nd i) (frN f i d k a y ph pr pa)):=by
 obtain⟨c,l⟩:=nmd (w.alloc (.cells #[iV (f:Int),iV (i:Int),iV (d:Int),iV (k:Int),iV (a:Int),.bool y,iV (ph:Int),iV (pr:Int),iV (pa:Int)] 125));have g:Hid (bW w c):=by rw[<-l.out];exact aD
 have x:Hid (c.heap[w.heap.size]?=some (.cells #[iV (f:Int),iV (i:Int),iV (d:Int),iV (k:Int),iV (a:Int),.bool y,iV (ph:Int),iV (pr:Int),iV (pa:Int)] 125 (0,0))):=by rw[<-l.out];exact aB w _
 obtain⟨U,W,Y,Z,b4,b5,b6,b7,b8⟩:=bH x;have H0:=hid h;have j:=hid (h.later g);have z:=hid n;have B:=hid b;have D:=hid o;obtain⟨-,E,-,-,-⟩:=j.cells;have c2:=j.ns i b;have c3:=(j.nds i b).lead t;obtain⟨r,F⟩:=nmd (zs.length);have G:=h.n7;rw[F.out]at E b G;have hW:=l.out;obtain⟨p,a0,a1⟩:=p;have H:=hid q;clear h n o q
 go_enter func116,ntmps116
 go_wp2_with fail
 refine(np f d k a ph pr pa y _ rfl j z B H D u).mono ?_;rintro e w3 ⟨v,rfl,s⟩;have I:=hid s;clear s
 go_wp2_with fail
 go_ret
 refine⟨_,rfl,?_⟩;obtain⟨J,L,M,O,P,Q,R⟩:=I.out;exact⟨J,L,M,O,(Kept.of_below g).trans P,fun S T=>Q S (bm T g.size),R.mono g.size⟩
theorem WOutF.mono{v:Value}{L:List F9}(h:WOutF w0 w w' C X zs V m v L)(a:m<=m'):WOutF w0 w w' C X zs V m' v L:=by
 obtain⟨b,c,d,e,f,g,j⟩:=h;exact⟨b,c,d.mono a,e,f,g,j⟩
theorem yU(f d k a ph pr pa:Nat)(y:Bool)(F:F9)(t:F=frN f i d k a y ph pr pa)(h:WD w0 w C X zs V m)(g:Held9 w0 A)(j:i<zs.length)(u:(V.nd i).l≠-2)(b:FI zs.length F)(x:m<1000000):Calls prog 116 #[.pointer (some ⟨X.xb,0,none⟩),frV (f:Int) (i:Int) (d:Int) (k:Int) (a:Int) y (ph:Int) (pr:Int) (pa:Int)] w fun e w'=>∃v,e=.returned v∧WOutF w0 w w' C X zs (de zs V F) (m+2) v (cX zs V F):=by
 subst t;have l:d<6:=by have:(0:Int)<=d∧(d:Int)<=5:=b.ok.2.2.1;omega
 by_cases s:k=2∨k=4∨k=6
 ·have n:de zs V (frN f i d k a y ph pr pa)=dH zs V i d (frN f i d k a y ph pr pa):=by
   unfold de fO;rw[af (by show decide ((k:Int)=2∨(k:Int)=4∨(k:Int)=6)=true;exact bo (by omega))];rfl
  have o:cX zs V (frN f i d k a y ph pr pa)=dq zs V i d (frN f i d k a y ph pr pa):=by
   unfold cX fO;rw[af (by show decide ((k:Int)=2∨(k:Int)=4∨(k:Int)=6)=true;exact bo (by omega))];rfl
  rw[n,o]
  cases c:(V.nd i).ld d with
  | none =>
   have z:dH zs V i d (frN f i d k a y ph pr pa)=V:=by unfold dH;rw[c]
   have B:dq zs V i d (frN f i d k a y ph pr pa)=[]:=by unfold dq;rw[c]
   rw[z,B];have p:((k:Int)==2)=true∨(((k:Int)==2)=false∧((k:Int)==4)=true)∨(((k:Int)==2)=false∧((k:Int)==4)=false∧((k:Int)==6)=true):=by rcases s with rfl|rfl|rfl<;>decide
   refine(wJ f d k a ph pr pa y c h g j b p l).mono ?_;rintro e D ⟨v,q,r⟩;exact⟨v,q,r.mono (aP _)⟩
  | some E =>
   have p:((k:Int)==2)=true∨(((k:Int)==2)=false∧((k:Int)==4)=true)∨(((k:Int)==2)=false∧((k:Int)==4)=false∧((k:Int)==6)=true):=by rcases s with rfl|rfl|rfl<;>decide
   refine(wR f d k a ph pr pa y E c h g j b p l).mono ?_;rintro e D ⟨v,q,r⟩;exact⟨v,q,r.mono (aP _)⟩
 ·have n:de zs V (frN f i d k a y ph pr pa)=aQ V i (frN f i d k a y ph pr pa):=by
   unfold de fO;rw[aa (by show ¬decide ((k:Int)=2∨(k:Int)=4∨(k:Int)=6)=true;rw[decide_eq_true_iff];omega)];rfl
  have o:cX zs V (frN f i d k a y ph pr pa)=ca i (V.nd i) (frN f i d k a y ph pr pa):=by
   unfold cX fO;rw[aa (by show ¬decide ((k:Int)=2∨(k:Int)=4∨(k:Int)=6)=true;rw[decide_eq_true_iff];omega)];rfl
  rw[n,o];exact wo f d k a ph pr pa y h g j b ⟨beq_eq_false_iff_ne.2 (by omega),beq_eq_false_iff_ne.2 (by omega),beq_eq_false_iff_ne.2 (by omega)⟩ l u x
theorem mE{F:F9}(h:XI zs V m)(d:(V.nd F.t.toNat).l≠-2)(a:FI zs.length F)(j:m<1000000):(∀x,x∈cX zs V F->FI zs.length x)∧(cX zs V F).length<=7:=by
 have b:F.t.toNat<zs.length:=by have:=a.t0;have:=a.t1;omega
 have e:F.d.toNat<6:=by have:=a.ok.2.2.1;omega
 have c:=(bp h.he).2.1;unfold cX
 split
 ·unfold dq
  cases f:(V.nd F.t.toNat).ld F.d.toNat with
  | none=>exact⟨fun x g=>(by cases g),Nat.zero_le _⟩
  | some x=>exact⟨lV b c e ((h.nd _ b).ld _ x f).2.1,bc (me _ _ _ _ _) c⟩
 ·exact⟨kj (h.nd _ b) d a (by omega) (by have:=a.t0;omega),bc adq (by decide)⟩
end
end Go.Proofs.YtaehdgemkafinaaGreatDoor
