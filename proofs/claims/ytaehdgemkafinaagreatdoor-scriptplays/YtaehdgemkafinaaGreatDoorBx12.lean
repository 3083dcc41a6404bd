/-
  On the way to SPlaysProof: O3 YA UG UC UD L7 RE.
-/
import Derived.Test.YtaehdgemkafinaaGreatDoorBx8
import Derived.Test.YtaehdgemkafinaaGreatDoorBx9
import Derived.Test.YtaehdgemkafinaaGreatDoorBx7
import Derived.Maps.AppendAt
import Derived.Lib.MinMax
import Derived.Laws.Externs
import Derived.Lib.Overlaps
import Derived.Lib.AppendZerosOnto
set_option maxHeartbeats 8000000
set_option maxRecDepth 100000
namespace Go.Proofs.YtaehdgemkafinaaGreatDoor
open Go.RowKit
open Go.Proofs.Tryz
theorem Tryz.infoStr:(prog.info? 9).map (fun i=>(i.zero,i.size,i.bytes))=some (some (.string ⟨#[]⟩),1,16):=by kernel_rfl
theorem qy{w:World}{ops:Array Oper}{rest:List Oper}{o:Oper}{a:Act}{Q:Exit->Act->World->Prop}(l:o.guard=none)(s x:Operand)(m:o.op=.call { callee:=.builtin .append,args:=#[s,x],argTypes:=#[34,34] })(base n:Nat)(v:Value)(xs:List Value)(f:Addr)(c:Nat)(F:Int)(p:a.eval s=v)(q:a.eval x=.slice (some f) 1 c)(r:w.ownsRow base 3 1 v n xs)(e:∀j g,[Value.int .i64 F][j]?=some g->w.cell? (f.add j)=some g)(I:n<=1000000000000)(t:base<=w.heap.size)(h:∀b d w',w'.ownsRow base 3 1 (.slice b (n+1) d) (n+1) (xs++[Value.int .i64 F])->w.grownBy w' v.ownBlock->((Value.slice b (n+1) d).ownBlock=v.ownBlock∨(Value.slice b (n+1) d).ownBlock=some w.heap.size)->wpList prog ops Q rest (a.put o.dst (.slice b (n+1) d)) w'):wpList prog ops Q (o::rest) a w:=by
 refine wpList_plain l fun J u=>?_
 obtain⟨y,z,A,B,C⟩:=info_parts Tryz.infoInt;obtain⟨D,w',E,i,G,-,H⟩:=run_append_own_at (P:=prog) w base 34 o.type 3 y _ 1 8 underlying34 z A B C rfl (by decide) v n xs r f 1 c [iV F] rfl e (by intro g e;simp at e;subst e;rfl) (by unfold maxLen;omega) (by omega) t;obtain⟨b,d,rfl⟩:∃b d,D=.slice b (n+1) d:=by
  rcases i.2 with⟨k,K⟩|⟨L,cap,M,k,-⟩
  ·omega
  ·exact⟨_,_,k⟩
 unfold Oper.wp execOp;simp only[m,resolve,invoke,builtin,Sem.run_bind,Sem.run_pure,Result.andThen_ok,List.map_toArray,List.map_cons,List.map_nil,p,q,E];exact u _ _ (h b d w' i G H)
theorem fi{w:World}{ops:Array Oper}{rest:List Oper}{o:Oper}{a:Act}{Q:Exit->Act->World->Prop}(l:o.guard=none)(s x:Operand)(m:o.op=.call { callee:=.builtin .append,args:=#[s,x],argTypes:=#[22,22] })(base n:Nat)(v:Value)(xs:List Value)(f:Addr)(c:Nat)(F:ByteArray)(p:a.eval s=v)(q:a.eval x=.slice (some f) 1 c)(r:w.ownsRow base 9 1 v n xs)(e:∀j g,[Value.string F][j]?=some g->w.cell? (f.add j)=some g)(I:n<=1000000000000)(t:base<=w.heap.size)(h:∀b d w',w'.ownsRow base 9 1 (.slice b (n+1) d) (n+1) (xs++[Value.string F])->w.grownBy w' v.ownBlock->((Value.slice b (n+1) d).ownBlock=v.ownBlock∨(Value.slice b (n+1) d).ownBlock=some w.heap.size)->wpList prog ops Q rest (a.put o.dst (.slice b (n+1) d)) w'):wpList prog ops Q (o::rest) a w:=by
 refine wpList_plain l fun J u=>?_
 obtain⟨y,z,A,B,C⟩:=info_parts Tryz.infoStr;obtain⟨D,w',E,i,G,-,H⟩:=run_append_own_at (P:=prog) w base 22 o.type 9 y _ 1 16 underlying22 z A B C rfl (by decide) v n xs r f 1 c [Value.string F] rfl e (by intro g e;simp at e;subst e;rfl) (by unfold maxLen;omega) (by omega) t;obtain⟨b,d,rfl⟩:∃b d,D=.slice b (n+1) d:=by
  rcases i.2 with⟨k,K⟩|⟨L,cap,M,k,-⟩
  ·omega
  ·exact⟨_,_,k⟩
 unfold Oper.wp execOp;simp only[m,resolve,invoke,builtin,Sem.run_bind,Sem.run_pure,Result.andThen_ok,List.map_toArray,List.map_cons,List.map_nil,p,q,E];exact u _ _ (h b d w' i G H)
theorem iI{w:World}{base n:Nat}{e:TypeId}{v:Value}{xs:List Value}(h:w.ownsRow base e 1 v n xs):∃b cap,v=.slice b n cap:=by
 rcases h.2 with⟨a,c⟩|⟨d,cap,f,a,-⟩
 ·exact⟨none,0,by rw[a,c]⟩
 ·exact⟨_,_,a⟩
def afz(w w':World)(r:Option (List Int))(v:Value):Prop:=match r with
 | none=>v=.tuple #[.slice none 0 0,.bool false]
 | some l=>∃u,v=.tuple #[u,.bool true]∧w'.ownsRow w.heap.size 3 1 u l.length (l.map (Value.int .i64))
theorem nL{w:World}{b a:Nat}{e:TypeId}{size n:Nat}{v:Value}{xs:List Value}(h:w.ownsRow b e size v n xs)(c:a<=b):w.ownsRow a e size v n xs:=by
 refine⟨h.1,?_⟩;rcases h.2 with d|⟨f,cap,g,rfl,i,rest⟩
 ·exact .inl d
 ·exact .inr ⟨f,cap,g,rfl,bc c i,rest⟩
theorem fI(w:World)(t:TypeId)(F:Value):∀j a,[F][j]?=some a->(w.alloc (.cells #[F] t)).cell? ((⟨w.heap.size,0,none⟩:Addr).add j)=some a:=by
 intro j a b
 cases j with
 | zero=>exact fM w [F] t 0 a b
 | succ j=>simp at b
structure RdO (w wr:World) (f:ByteArray) (eD:Bool) (fv:Value) (ws:List ByteArray) (i:Nat) (l:List Int) (u:Value):Prop where
 rd:dD f.data.toList 0 ((ws.map (·.data.toList)).take i)=some l
 own:wr.ownsRow (w.heap.size+1) 3 1 u l.length (l.map (Value.int .i64))
 bel:Below w.heap.size w wr
 box:wr.heap[w.heap.size]?=some (.cells #[.string f,.bool eD,fv] 84)
theorem yo(f:ByteArray)(eD:Bool)(fv:Value)(b o cap:Nat)(a:List ByteArray)(w:World)(hf:f.size<=5)(b2:eD=true->0<f.size)(hl:a.length<=1000)(hw:∀i x,a[i]?=some x->w.cell? ⟨b,o+i,none⟩=some (.string x))(b0:¬a.length<f.size)(V:¬f.size<a.length∨(f.size<a.length∧eD=true)):Calls prog 136 #[.agg #[.string f,.bool eD,fv],.slice (some ⟨b,o,none⟩) a.length cap] w fun e w'=>∃v,e=.returned v∧afz w w' (dK f.data.toList eD (a.map (·.data.toList))) v∧Below w.heap.size w w':=by
 have HW:=hid hw;have W:Hid (dK f.data.toList eD (a.map (·.data.toList))=dD f.data.toList 0 (a.map (·.data.toList))):=by
  change _=_;unfold dK;have u:(a.map (·.data.toList)).length=a.length:=List.length_map ..;have h2:f.data.toList.length=f.size:=rfl;rw[u,h2,aa];rintro(X|⟨X,h'⟩)
  ·exact b0 X
  ·rcases V with d|⟨-,d⟩
   ·exact d X
   ·rw[d]at h';cases h'
 have a1:0<a.length->0<f.size:=fun X=>by
  rcases V with d|⟨-,d⟩
  ·omega
  ·exact b2 d
 obtain⟨k,Y⟩:=nmd (a.length);have Z:Hid ((a.map (·.data.toList)).length=k):=by change _=_;rw[List.length_map];exact Y
 rw[Y.out]at hl b0 V a1 ⊢;obtain⟨E,b1⟩:=nmd (w.alloc (.cells #[.string f,.bool eD,fv] 84));have a0:Hid (RdO w E f eD fv a 0 [] (.slice none 0 0)):=by
  rw[<-b1.out];exact⟨rfl,World.ownsRow_nil _ _ _ _,aD,(MapKept.heap_alloc w _).1⟩
 have b9:=b1.out;have g0:E.cell? ⟨w.heap.size,0,none⟩=some (.string f):=by simp[World.cell?,a0.out.box]
 have g1:E.cell? ⟨w.heap.size,1,none⟩=some (.bool eD):=by simp[World.cell?,a0.out.box]
 clear hw;rcases V with q1|⟨q1,q2⟩
 ·go_enter func136,ntmps136
  go_wp2_with fail
  go_loopw [4,5,32] (fun a2 g v wr=>∃(i:Nat) (h:List Int),i<=k∧g=.bool false∧v=iV (i:Int)∧Hid (RdO w wr f eD fv a i h a2)) (fun _ _ v _=>k-(intOf v).toNat)
  case atStart=>exact⟨0,[],Nat.zero_le _,rfl,rfl,a0.out⟩
  case round =>
   obtain⟨i,h,hi,rfl,rfl,c⟩:=hrel;obtain⟨F,G,hu⟩:=iI c.own;subst hu;have p:Hid (h.length=i):=by
    change _=_;rw[(iX c.rd).1,bI,Z.out];omega
   rw[p.out]
   by_cases a3:i<k
   ·have b3:(i:Int)<(k:Int):=by omega
    have H:i<a.length:=by rw[Y.out];exact a3
    obtain⟨x,HX⟩:=nmd (a[i]'H);have I:Hid (a[i]?=some x):=by change _=_;rw[cG H,HX.out]
    have a4:Hid ((a.map (·.data.toList))[i]?=some x.data.toList):=by change _=_;rw[List.getElem?_map,I.out];rfl
    have c0:wr.cell? ⟨b,o+i,none⟩=some (.string x):=ag c.bel (HW.out i x I.out);have c1:wr.cell? ⟨w.heap.size,0,none⟩=some (.string f):=by simp[World.cell?,c.out.box]
    obtain⟨d,J⟩:∃d:Nat,min i (f.size-1)=d:=⟨_,rfl⟩;have y:d<f.size:=by have:=a1 (by omega);omega
    have b4:min (i:Int) ((f.size:Int)-1)=(d:Int):=by omega
    obtain⟨g,K⟩:=nmd ((f[d]'y));have b5:∀w',(Instr.index 9 (.string f) (iV (d:Int))).run prog w'=.ok (.int .u8 (g.toNat:Int)) w':=fun w'=>by rw[eV f d d y rfl w',K.out]
    have L:f.data.toList.getD d 0=g:=by
     rw[List.getD,cG y,Option.getD_some,<-K.out];exact rfl
    have t:=hid (sD x (eU g) wr (qd g));have q:=hid (lM (f:=f.data.toList) (a.map (·.data.toList)) 0 i h x.data.toList c.rd a4.out);rw[Nat.zero_add,show f.data.toList.length=f.size from rfl,J,L]at q;have M:=hid (xD g wr);clear L J
    cases l:eX (eU g) x.data.toList with
    | none =>
     have a5:Hid (dK f.data.toList eD (a.map (·.data.toList))=none):=by
      change _=_;rw[W.out];refine mI _ 0 (i+1) ?_;rw[q.out,l]
     rw[l]at t;clear l q
     go_wp2_with fail
     refine M.mono ?_;rintro e j ⟨rfl,z⟩;subst j
     go_wp2_with fail
     refine t.mono ?_;rintro e j ⟨rfl,z⟩;subst j;unfold rF
     go_wp2_with fail
     go_ret2
     exact⟨_,rfl,by rw[a5.out];exact rfl,c.bel⟩
    | some m =>
     have a6:Hid (dD f.data.toList 0 ((a.map (·.data.toList)).take (i+1))=some (h++[(m:Int)])):=by
      change _=_;rw[q.out,l]
     rw[l]at t;clear l q
     go_wp2_with fail
     refine M.mono ?_;rintro e j ⟨rfl,z⟩;subst j
     go_wp2_with fail
     refine t.mono ?_;rintro e j ⟨rfl,z⟩;subst j;unfold rF;obtain⟨r,A⟩:=nmd (wr.alloc (.cells #[iV (m:Int)] 3));have s:Hid (bW wr r):=by rw[<-A.out];exact aD
     have B:=hid (dC c.own s.out aj);rw[p.out]at B;have a7:Hid (∀N O,[iV (m:Int)][N]?=some O->r.cell? ((⟨wr.heap.size,0,none⟩:Addr).add N)=some O):=by rw[<-A.out];exact fI wr 3 (iV (m:Int))
     have a8:w.heap.size+1<=r.heap.size:=by have:=ah c.box;have:=s.size;omega
     have b6:=A.out;clear c0 c1
     go_wp2_with (at_builtin;refine qy rfl _ _ rfl (w.heap.size+1) i (.slice F i G) (h.map (Value.int .i64)) ⟨wr.heap.size,0,none⟩ 1 (m:Int) rfl rfl B.out a7.out (by omega) a8 ?_;intro b7 b8 w3 P Q R;have S:=hid (And.intro P (And.intro Q R));clear P Q R)
     go_roundw
     case rel =>
      refine⟨i+1,h++[(m:Int)],by omega,rfl,by go_num,?_⟩;have T:∀n,(Value.slice F i G).ownBlock=some n->w.heap.size+1<=n:=fun n C=>(B.lt n C).1
      have U:=S.2.1;refine⟨a6.out,?_,?_,?_⟩
      ·rw[aR,p.out,List.map_append];exact S.1
      ·exact Below.grown (c.bel.trans (s.mono c.bel.size)) U (by have:=c.bel.size;have:=s.size;omega) (fun n C=>by have:=T n C;omega)
      ·have u:=(s.block _ (ah c.box)).trans c.box
       exact(U.block _ (ah u) (fun e=>by have:=T _ e.symm;omega)).trans u
     case measure=>simp[intOf];omega
   ·obtain rfl:i=k:=by omega
    have HG:Hid (dK f.data.toList eD (a.map (·.data.toList))=some h):=by
     change _=_;rw[W.out];have:=c.rd;rw[List.take_of_length_le (Nat.le_of_eq Z.out)]at this;exact this
    have D:=c.own;rw[p.out]at D;have a9:=hid D;clear D
    go_wp2_with fail
    go_ret2
    exact⟨_,rfl,by rw[HG.out];exact⟨_,rfl,by rw[p.out];exact nL a9.out (by omega)⟩,c.bel⟩
 ·subst q2
  go_enter func136,ntmps136
  go_wp2_with fail
  go_loopw [4,5,32] (fun a2 g v wr=>∃(i:Nat) (h:List Int),i<=k∧g=.bool false∧v=iV (i:Int)∧Hid (RdO w wr f true fv a i h a2)) (fun _ _ v _=>k-(intOf v).toNat)
  case atStart=>exact⟨0,[],Nat.zero_le _,rfl,rfl,a0.out⟩
  case round =>
   obtain⟨i,h,hi,rfl,rfl,c⟩:=hrel;obtain⟨F,G,hu⟩:=iI c.own;subst hu;have p:Hid (h.length=i):=by
    change _=_;rw[(iX c.rd).1,bI,Z.out];omega
   rw[p.out]
   by_cases a3:i<k
   ·have b3:(i:Int)<(k:Int):=by omega
    have H:i<a.length:=by rw[Y.out];exact a3
    obtain⟨x,HX⟩:=nmd (a[i]'H);have I:Hid (a[i]?=some x):=by change _=_;rw[cG H,HX.out]
    have a4:Hid ((a.map (·.data.toList))[i]?=some x.data.toList):=by change _=_;rw[List.getElem?_map,I.out];rfl
    have c0:wr.cell? ⟨b,o+i,none⟩=some (.string x):=ag c.bel (HW.out i x I.out);have c1:wr.cell? ⟨w.heap.size,0,none⟩=some (.string f):=by simp[World.cell?,c.out.box]
    obtain⟨d,J⟩:∃d:Nat,min i (f.size-1)=d:=⟨_,rfl⟩;have y:d<f.size:=by have:=a1 (by omega);omega
    have b4:min (i:Int) ((f.size:Int)-1)=(d:Int):=by omega
    obtain⟨g,K⟩:=nmd ((f[d]'y));have b5:∀w',(Instr.index 9 (.string f) (iV (d:Int))).run prog w'=.ok (.int .u8 (g.toNat:Int)) w':=fun w'=>by rw[eV f d d y rfl w',K.out]
    have L:f.data.toList.getD d 0=g:=by
     rw[List.getD,cG y,Option.getD_some,<-K.out];exact rfl
    have t:=hid (sD x (eU g) wr (qd g));have q:=hid (lM (f:=f.data.toList) (a.map (·.data.toList)) 0 i h x.data.toList c.rd a4.out);rw[Nat.zero_add,show f.data.toList.length=f.size from rfl,J,L]at q;have M:=hid (xD g wr);clear L J
    cases l:eX (eU g) x.data.toList with
    | none =>
     have a5:Hid (dK f.data.toList true (a.map (·.data.toList))=none):=by
      change _=_;rw[W.out];refine mI _ 0 (i+1) ?_;rw[q.out,l]
     rw[l]at t;clear l q
     go_wp2_with fail
     refine M.mono ?_;rintro e j ⟨rfl,z⟩;subst j
     go_wp2_with fail
     refine t.mono ?_;rintro e j ⟨rfl,z⟩;subst j;unfold rF
     go_wp2_with fail
     go_ret2
     exact⟨_,rfl,by rw[a5.out];exact rfl,c.bel⟩
    | some m =>
     have a6:Hid (dD f.data.toList 0 ((a.map (·.data.toList)).take (i+1))=some (h++[(m:Int)])):=by
      change _=_;rw[q.out,l]
     rw[l]at t;clear l q
     go_wp2_with fail
     refine M.mono ?_;rintro e j ⟨rfl,z⟩;subst j
     go_wp2_with fail
     refine t.mono ?_;rintro e j ⟨rfl,z⟩;subst j;unfold rF;obtain⟨r,A⟩:=nmd (wr.alloc (.cells #[iV (m:Int)] 3));have s:Hid (bW wr r):=by rw[<-A.out];exact aD
     have B:=hid (dC c.own s.out aj);rw[p.out]at B;have a7:Hid (∀N O,[iV (m:Int)][N]?=some O->r.cell? ((⟨wr.heap.size,0,none⟩:Addr).add N)=some O):=by rw[<-A.out];exact fI wr 3 (iV (m:Int))
     have a8:w.heap.size+1<=r.heap.size:=by have:=ah c.box;have:=s.size;omega
     have b6:=A.out;clear c0 c1
     go_wp2_with (at_builtin;refine qy rfl _ _ rfl (w.heap.size+1) i (.slice F i G) (h.map (Value.int .i64)) ⟨wr.heap.size,0,none⟩ 1 (m:Int) rfl rfl B.out a7.out (by omega) a8 ?_;intro b7 b8 w3 P Q R;have S:=hid (And.intro P (And.intro Q R));clear P Q R)
     go_roundw
     case rel =>
      refine⟨i+1,h++[(m:Int)],by omega,rfl,by go_num,?_⟩;have T:∀n,(Value.slice F i G).ownBlock=some n->w.heap.size+1<=n:=fun n C=>(B.lt n C).1
      have U:=S.2.1;refine⟨a6.out,?_,?_,?_⟩
      ·rw[aR,p.out,List.map_append];exact S.1
      ·exact Below.grown (c.bel.trans (s.mono c.bel.size)) U (by have:=c.bel.size;have:=s.size;omega) (fun n C=>by have:=T n C;omega)
      ·have u:=(s.block _ (ah c.box)).trans c.box
       exact(U.block _ (ah u) (fun e=>by have:=T _ e.symm;omega)).trans u
     case measure=>simp[intOf];omega
   ·obtain rfl:i=k:=by omega
    have HG:Hid (dK f.data.toList true (a.map (·.data.toList))=some h):=by
     change _=_;rw[W.out];have:=c.rd;rw[List.take_of_length_le (Nat.le_of_eq Z.out)]at this;exact this
    have D:=c.own;rw[p.out]at D;have a9:=hid D;clear D
    go_wp2_with fail
    go_ret2
    exact⟨_,rfl,by rw[HG.out];exact⟨_,rfl,by rw[p.out];exact nL a9.out (by omega)⟩,c.bel⟩
theorem adp(f:ByteArray)(eD:Bool)(fv:Value)(b o cap:Nat)(a:List ByteArray)(w:World)(p:f.size<=5)(q:eD=true->0<f.size)(g:a.length<=1000)(h:∀i x,a[i]?=some x->w.cell? ⟨b,o+i,none⟩=some (.string x)):Calls prog 136 #[.agg #[.string f,.bool eD,fv],.slice (some ⟨b,o,none⟩) a.length cap] w fun e w'=>∃v,e=.returned v∧afz w w' (dK f.data.toList eD (a.map (·.data.toList))) v∧Below w.heap.size w w':=by
 have j:(a.map (·.data.toList)).length=a.length:=List.length_map ..;have r:f.data.toList.length=f.size:=rfl
 by_cases c:a.length<f.size
 ·have l:Hid (dK f.data.toList eD (a.map (·.data.toList))=none):=by
   change _=_;unfold dK;rw[j,r,af (.inl c)]
  obtain⟨d,m⟩:=nmd (a.length);rw[m.out]at c g ⊢;have n:Hid (bW w (w.alloc (.cells #[.string f,.bool eD,fv] 84))):=aD;clear h j
  go_enter func136,ntmps136
  go_wp2_with fail
  go_ret2
  exact⟨_,rfl,by rw[l.out];exact rfl,n⟩
 ·by_cases k:f.size<a.length
  ·cases eD with
   | true=>exact yo f true fv b o cap a w p q g h c (.inr ⟨k,rfl⟩)
   | false =>
    have l:Hid (dK f.data.toList false (a.map (·.data.toList))=none):=by
     change _=_;unfold dK;rw[j,r,af (.inr ⟨k,rfl⟩)]
    obtain⟨d,m⟩:=nmd (a.length);rw[m.out]at c k g ⊢;have n:Hid (bW w (w.alloc (.cells #[.string f,.bool false,fv] 84))):=aD;clear h j
    go_enter func136,ntmps136
    go_wp2_with fail
    go_ret2
    exact⟨_,rfl,by rw[l.out];exact rfl,n⟩
  ·exact yo f eD fv b o cap a w p q g h c (.inl k)
structure Gh where
 acc:Nat->Nat->Prop
 val:Nat->Nat
 no:Nat->Prop
def Qo(zs:List Int)(S:Nat->Prop):Prop:=∃q:Int,ii zs q=0∧bn zs q=true∧∀i,i<zs.length->bit q i=true->S i
theorem Qo.mono{zs:List Int}{S T:Nat->Prop}(h:Qo zs S)(b:∀i,i<zs.length->S i->T i):Qo zs T:=by
 obtain⟨c,d,e,f⟩:=h;exact⟨c,d,e,fun i a g=>b i a (f i a g)⟩
theorem Qo.meet{zs:List Int}{S T:Nat->Prop}(h:Qo zs S)(g:Qo zs T):∃i,i<zs.length∧S i∧T i:=by
 obtain⟨x,d,l,m⟩:=h;obtain⟨y,j,n,o⟩:=g;have e:=Go.Proofs.YtaehdgemkafinaaGreatDoor.meet d j l n;have p:=oB d;have q:=oB j;obtain⟨-,z,r⟩:=jX d;obtain⟨c,rfl⟩:=bD p.1;obtain⟨k,rfl⟩:=bD q.1;rw[gZ c k (by omega) (by omega)]at e;have s:c &&& k≠0:=by
  intro t;rw[t]at e
  cases e
 obtain⟨a,b⟩:=Nat.exists_testBit_of_ne_zero s;rw[Nat.testBit_and,Bool.and_eq_true]at b;rw[fG]at r;have u:c<2^zs.length:=by omega
 have f:a<zs.length:=by
  refine Nat.lt_of_not_le fun v=>?_
  have w:c<2^a:=bm u (Nat.pow_le_pow_right (by decide) v);rw[Nat.testBit_lt_two_pow w]at b
  cases b.1
 exact⟨a,f,m a f (by unfold bit;rw[aU];exact b.1),o a f (by unfold bit;rw[aU];exact b.2)⟩
def Dec2(zs:List Int)(g:Gh):Prop:=∃a,g.val a=4∧Qo zs fun i=>g.acc i a
def Dec3(zs:List Int)(g:Gh):Prop:=(∃a,g.val a=5∧Qo zs fun i=>g.acc i a)∨∃i,i<zs.length∧g.no i
structure Co (zs:List Int) (s:Nat->St) (g:Gh):Prop where
 av:∀i a,g.acc i a->g.val a≠0
 ap:∀i a,i<zs.length->g.acc i a->a<=(s i).pr
 vi:∀a,g.val a=0∨g.val a=4∨g.val a=5
 v0:g.val 0≠5
 ow:∀a,g.val a≠0->0<a->a<=(s (a%zs.length)).pr
 bg:∀a,g.val a≠0->0<a->Qo zs fun i=>a<=(s i).pr
 px:∀a b,b<a->g.val a≠0->g.val b≠0->g.val a≠g.val b->Qo zs fun i=>b<(s i).pr∧¬g.acc i b
 s4:∀i,i<zs.length->((s i).ph=4∨(s i).ph=5)->g.val (s i).at_=(s i).ph∧∀b,g.acc i b->b<=(s i).at_
 s0:∀i,i<zs.length->((s i).ph=0∨(s i).ph=1)->∀b,¬g.acc i b
 s2:∀i,i<zs.length->(s i).ph=2->Dec2 zs g
 s3:∀i,i<zs.length->(s i).ph=3->Dec3 zs g
 al:∀a,g.val a=4->∀i,i<zs.length->(s i).ph≠0
 nv:∀i,i<zs.length->g.no i->(s i).ph=3∧∀a,g.val a≠4
theorem Co.split{zs:List Int}{s:Nat->St}{g:Gh}(h:Co zs s g)(i:Dec2 zs g)(j:Dec3 zs g):False:=by
 obtain⟨a,k,l⟩:=i;rcases j with⟨b,p,m⟩|⟨c,n,o⟩
 ·rcases Nat.lt_trichotomy a b with d|rfl|d
  ·obtain⟨c,-,e,-,f⟩:=Qo.meet l (h.px b a d (by omega) (by omega) (by omega))
   exact f e
  ·omega
  ·obtain⟨c,-,e,-,f⟩:=Qo.meet m (h.px a b d (by omega) (by omega) (by omega))
   exact f e
 ·exact(h.nv c n o).2 a k
theorem Co.zero {zs:List Int} {s:Nat→St} (hs:∀ i,i<zs.length→(s i).ph=0):Co zs s ⟨fun _ _=>False,fun _=>0,fun _=>False⟩ where
 av:=fun _ _ h=>h.elim
 ap:=fun _ _ _ h=>h.elim
 vi:=fun _=>.inl rfl
 v0:=by decide
 ow:=fun _ h=>(h rfl).elim
 bg:=fun _ h=>(h rfl).elim
 px:=fun _ _ _ h=>(h rfl).elim
 s4:=fun i hi h=>by have:=hs i hi; omega
 s0:=fun _ _ _ _ h=>h
 s2:=fun i hi h=>by have:=hs i hi; omega
 s3:=fun i hi h=>by have:=hs i hi; omega
 al:=fun _ h=>by cases h
 nv:=fun _ _ h=>h.elim
structure Gr (zs:List Int) (s:Nat->St) (g:Gh) (s':Nat->St) (g':Gh):Prop where
 pr:∀i,(s i).pr<=(s' i).pr
 ph:∀i,i<zs.length->(s i).ph≠0->(s' i).ph≠0
 va:∀a,g.val a≠0->g'.val a=g.val a
 ac:∀i a,g.acc i a->g'.acc i a
 an:∀i a,i<zs.length->g'.acc i a->g.acc i a∨(s i).pr<=a
 no:∀i,g.no i->g'.no i
 nn:∀i,i<zs.length->g'.no i->g.no i∨(s i).ph=0
theorem Gr.refl(zs:List Int)(s:Nat->St)(g:Gh):Gr zs s g s g:=⟨fun _=>aj,fun _ _ a=>a,fun _ _=>rfl,fun _ _ a=>a,fun _ _ _ a=>.inl a,fun _ a=>a,fun _ _ a=>.inl a⟩
section
variable {zs:List Int} {s s':Nat→St} {g g':Gh}
theorem Dec2.grow(h:Dec2 zs g)(k:Gr zs s g s' g'):Dec2 zs g':=by
 obtain⟨a,b,c⟩:=h;exact⟨a,by rw[k.va a (by omega)];exact b,c.mono fun d _ e=>k.ac d a e⟩
theorem Dec3.grow(h:Dec3 zs g)(k:Gr zs s g s' g'):Dec3 zs g':=by
 rcases h with⟨b,c,d⟩|⟨a,c,d⟩
 ·exact .inl ⟨b,by rw[k.va b (by omega)];exact c,d.mono fun a _ e=>k.ac a b e⟩
 ·exact .inr ⟨a,c,k.no a d⟩
structure Told (zs:List Int) (s:Nat->St) (g:Gh) (i a:Nat) (t:S3):Prop where
 pr:a<=(s i).pr
 a0:0<=t.a
 d2:t.p=2->Dec2 zs g
 d3:t.p=3->Dec3 zs g
 va:(t.p=4∨t.p=5)->(g.val t.a.toNat:Int)=t.p
 ac:t.p≠2->t.p≠3->∀b,b<a->g.acc i b->(t.p=4∨t.p=5)∧(b:Int)<=t.a
theorem Told.grow {i a:Nat} {t:S3} (h:Told zs s g i a t) (hi:i<zs.length) (k:Gr zs s g s' g'):Told zs s' g' i a t where
 pr:=Nat.le_trans h.pr (k.pr i)
 a0:=h.a0
 d2:=fun e=>(h.d2 e).grow k
 d3:=fun e=>(h.d3 e).grow k
 va:=fun e=>by have:=h.va e; rw [k.va _ (by omega)]; exact this
 ac:=fun e2 e3 b hb hac=>by
  rcases k.an i b hi hac with h1|h1
  ·exact h.ac e2 e3 b hb h1
  ·have:=h.pr; omega
structure Fr (zs:List Int) (s:Nat->St) (g:Gh) (f:F9):Prop where
 vy:f.k=2->f.y=true->(s f.f.toNat).ph≠0∧¬g.no f.f.toNat
 vn:f.k=2->f.y=false->Dec3 zs g
 te:f.k=4->f.y=true->Told zs s g f.f.toNat f.a.toNat ⟨f.ph,f.pr,f.pa⟩
 pe:f.k=5->(f.ph=4∨f.ph=5)∧(g.val f.a.toNat:Int)=f.ph
 ak:f.k=6->f.y=true->g.acc f.f.toNat f.a.toNat
 d2:f.k=7->f.ph=2->Dec2 zs g
 d3:f.k=7->f.ph=3->Dec3 zs g
theorem Fr.grow {f:F9} (h:Fr zs s g f) (hf:f.f.toNat<zs.length) (k:Gr zs s g s' g'):Fr zs s' g' f where
 vy:=fun e y=>by
  obtain ⟨h1,h2⟩:=h.vy e y;refine ⟨k.ph _ hf h1,fun hn=>?_⟩;rcases k.nn _ hf hn with h3|h3
  ·exact h2 h3
  ·exact h1 h3
 vn:=fun e y=>(h.vn e y).grow k
 te:=fun e y=>(h.te e y).grow hf k
 pe:=fun e=>by obtain ⟨h1,h2⟩:=h.pe e; exact ⟨h1,by rw [k.va _ (by omega)]; exact h2⟩
 ak:=fun e y=>k.ac _ _ (h.ak e y)
 d2:=fun e p=>(h.d2 e p).grow k
 d3:=fun e p=>(h.d3 e p).grow k
structure Le (zs:List Int) (s:Nat->St) (g:Gh) (id:Nat) (att:Int) (P:PL):Prop where
 a0:0<=att
 vo:P.stt=0->att=0->∀i,i<zs.length->bit P.ans i=true->(s i).ph≠0∧¬g.no i
 tv:P.stt=0->0<att->g.val att.toNat=0
 tt:P.stt=0->0<att->∀i,i<zs.length->bit P.ans i=true->∃t,P.told[i]?=some t∧Told zs s g i att.toNat t
 t0:P.stt=0->0<att->∀i t,P.told[i]?=some t->t.p=0∨(i<zs.length∧bit P.ans i=true)
 ow:0<att->att.toNat%zs.length=id∧att.toNat<=(s id).pr
 pv:P.stt=1->(P.prep=4∨P.prep=5)∧(g.val att.toNat:Int)=P.prep
 pa:P.stt=1->∀i,i<zs.length->bit P.ans i=true->g.acc i att.toNat
theorem Le.grow {id:Nat} {att:Int} {P:PL} (h:Le zs s g id att P) (k:Gr zs s g s' g') (hv:P.stt=0→0<att→g'.val att.toNat=0):Le zs s' g' id att P where
 a0:=h.a0
 vo:=fun e e2 i hi hb=>by
  obtain ⟨h1,h2⟩:=h.vo e e2 i hi hb;refine ⟨k.ph _ hi h1,fun hn=>?_⟩;rcases k.nn _ hi hn with h3|h3
  ·exact h2 h3
  ·exact h1 h3
 tv:=hv
 tt:=fun e e2 i hi hb=>by obtain ⟨t,h1,h2⟩:=h.tt e e2 i hi hb; exact ⟨t,h1,h2.grow hi k⟩
 t0:=h.t0
 ow:=fun e=>⟨(h.ow e).1,Nat.le_trans (h.ow e).2 (k.pr id)⟩
 pv:=fun e=>by obtain ⟨h1,h2⟩:=h.pv e; exact ⟨h1,by rw [k.va _ (by omega)]; exact h2⟩
 pa:=fun e i hi hb=>k.ac _ _ (h.pa e i hi hb)
def upd(s:Nat->St)(i:Nat)(t:St):Nat->St:=fun k=>if k=i then t else s k
theorem gI(s:Nat->St)(i:Nat)(t:St):upd s i t i=t:=af rfl
theorem iU(s:Nat->St)(i:Nat)(t:St){k:Nat}(h:k≠i):upd s i t k=s k:=aa h
def ghS(g:Gh)(i:Nat)(A:Nat->Prop)(N:Prop):Gh:=⟨fun j a=>g.acc j a∨(j=i∧A a),g.val,fun j=>g.no j∨(j=i∧N)⟩
theorem lX(h:Co zs s g){i:Nat}(v:i<zs.length)(t:St)(A:Nat->Prop)(N:Prop)(w:(s i).pr<=t.pr)(n:∀a,A a->g.val a≠0∧(s i).pr<=a∧a<=t.pr)(o:N->(s i).ph=0∧t.ph=3)(x:(s i).ph≠0->t.ph≠0)(y:(s i).ph=3->t.ph=3)(p:(t.ph=4∨t.ph=5)->g.val t.at_=t.ph∧∀b,(g.acc i b∨A b)->b<=t.at_)(r:(t.ph=0∨t.ph=1)->∀b,¬(g.acc i b∨A b))(z:t.ph=2->Dec2 zs g)(B:t.ph=3->Dec3 zs g∨N):Co zs (upd s i t) (ghS g i A N)∧Gr zs s g (upd s i t) (ghS g i A N):=by
 have m:∀d,(s d).pr<=(upd s i t d).pr:=fun d=>by
  by_cases e:d=i
  ·subst e;rw[gI];exact w
  ·rw[iU _ _ _ e];exact aj
 have l:Gr zs s g (upd s i t) (ghS g i A N):=by
  refine⟨m,fun d j u=>?_,fun _ _=>rfl,fun _ _ c=>.inl c,fun d a j c=>?_,fun _ c=>.inl c,fun d j c=>?_⟩
  ·by_cases e:d=i
   ·subst e;rw[gI];exact x u
   ·rw[iU _ _ _ e];exact u
  ·rcases c with c|⟨rfl,c⟩
   ·exact .inl c
   ·exact .inr (n a c).2.1
  ·rcases c with c|⟨rfl,c⟩
   ·exact .inl c
   ·exact .inr (o c).1
 refine⟨?_,l⟩;refine⟨fun d a c=>?_,fun d a j c=>?_,h.vi,h.v0,fun a k q=>bc (h.ow a k q) (m _),fun a k q=>(h.bg a k q).mono fun d _ c=>bc c (m d),fun a b C k D E=>?_,fun d j c=>?_,fun d j c b=>?_,fun d j c=>?_,fun d j c=>?_,fun a k d j=>?_,fun d j c=>?_⟩
 ·rcases c with c|⟨-,c⟩
  ·exact h.av d a c
  ·exact(n a c).1
 ·rcases c with c|⟨rfl,c⟩
  ·exact bc (h.ap d a j c) (m d)
  ·rw[gI];exact(n a c).2.2
 ·refine(h.px a b C k D E).mono fun d _ c=>⟨bm c.1 (m d),?_⟩
  rintro(f|⟨rfl,f⟩)
  ·exact c.2 f
  ·have:=(n b f).2.1;omega
 ·by_cases e:d=i
  ·subst e
   rw[gI]at c ⊢;refine⟨(p c).1,?_⟩;rintro b (f|⟨-,f⟩)
   ·exact(p c).2 b (.inl f)
   ·exact(p c).2 b (.inr f)
  ·rw[iU _ _ _ e]at c ⊢
   refine⟨(h.s4 d j c).1,?_⟩;rintro b (f|⟨f,-⟩)
   ·exact(h.s4 d j c).2 b f
   ·exact(e f).elim
 ·by_cases e:d=i
  ·subst e
   rw[gI]at c;rintro(f|⟨-,f⟩)
   ·exact r c b (.inl f)
   ·exact r c b (.inr f)
  ·rw[iU _ _ _ e]at c
   rintro(f|⟨f,-⟩)
   ·exact h.s0 d j c b f
   ·exact(e f).elim
 ·by_cases e:d=i
  ·subst e;rw[gI]at c;exact(z c).grow l
  ·rw[iU _ _ _ e]at c;exact(h.s2 d j c).grow l
 ·by_cases e:d=i
  ·subst e
   rw[gI]at c;rcases B c with f|f
   ·exact f.grow l
   ·exact .inr ⟨d,v,.inr ⟨rfl,f⟩⟩
  ·rw[iU _ _ _ e]at c;exact(h.s3 d j c).grow l
 ·exact l.ph d j (h.al a k d j)
 ·by_cases e:d=i
  ·subst e
   rcases c with c|⟨-,c⟩
   ·obtain⟨F,G⟩:=h.nv d j c
    refine⟨?_,G⟩;rw[gI];exact y F
   ·refine⟨by rw[gI];exact(o c).2,fun a k=>h.al a k d j (o c).1⟩
  ·rcases c with c|⟨c,-⟩
   ·rw[iU _ _ _ e];exact h.nv d j c
   ·exact(e c).elim
theorem uu(g:Gh)(i:Nat):ghS g i (fun _=>False) False=g:=by
 obtain⟨a,b,c⟩:=g;unfold ghS;simp
def ct(id:Nat)(f:F9)(o:HOut):F9:=⟨id,f.f,f.d,o.k,f.a,o.yes,o.st.ph,o.st.pr,o.st.at_⟩
theorem acX(s:Nat->St)(i:Nat):upd s i (s i)=s:=by
 funext k
 unfold upd
 split
 ·rename_i a;rw[a]
 ·rfl
theorem agz(h:Co zs s g){i:Nat}(c:i<zs.length)(v:(s i).good)(n:Bool)(f:F9)(p:Fr zs s g f)(G:0<=f.ph):∃g',Co zs (upd s i (aO (s i) n f.k.toNat f.a.toNat f.ph.toNat).st) g'∧Gr zs s g (upd s i (aO (s i) n f.k.toNat f.a.toNat f.ph.toNat).st) g'∧g'.val=g.val∧((aO (s i) n f.k.toNat f.a.toNat f.ph.toNat).k≠0->Fr zs (upd s i (aO (s i) n f.k.toNat f.a.toNat f.ph.toNat).st) g' (ct i f (aO (s i) n f.k.toNat f.a.toNat f.ph.toNat))):=by
 have H:=v;obtain⟨I,J,K⟩:=v;have same:∀l:HOut,l.st=s i->(l.k≠0->Fr zs s g (ct i f l))->∃g',Co zs (upd s i l.st) g'∧Gr zs s g (upd s i l.st) g'∧g'.val=g.val∧(l.k≠0->Fr zs (upd s i l.st) g' (ct i f l)):=by
  intro l e z;rw[e,acX s i];exact⟨g,h,Gr.refl _ _ _,rfl,z⟩
 unfold aO
 split
 ·
  unfold jf
  by_cases m:(s i).ph=0
  ·rw[af m]
   cases n with
   | true =>
    rw[af rfl];have j:=lX h c ⟨3,(s i).pr,(s i).at_⟩ (fun _=>False) True aj (fun _ b=>b.elim) (fun _=>⟨m,rfl⟩) (fun b=>absurd m b) (fun b=>rfl) (fun b=>by simp at b) (fun b=>by simp at b) (fun b=>by simp at b) (fun _=>.inr trivial);refine⟨_,j.1,j.2,rfl,fun _=>⟨fun _ d=>(by simp[ct]at d),fun _ _=>.inr ⟨i,c,.inr ⟨rfl,trivial⟩⟩,fun a=>(by simp[ct]at a),fun a=>(by simp[ct]at a),fun a=>(by simp[ct]at a),fun a=>(by simp[ct]at a),fun a=>(by simp[ct]at a)⟩⟩
   | false =>
    rw[aa (by decide)];have j:=lX h c ⟨1,(s i).pr,(s i).at_⟩ (fun _=>False) False aj (fun _ b=>b.elim) (fun b=>b.elim) (fun b=>absurd m b) (fun b=>by omega) (fun b=>by simp at b) (fun _ k b=>h.s0 i c (.inl m) k (b.elim id False.elim)) (fun b=>by simp at b) (fun b=>by simp at b);rw[uu]at j;refine⟨_,j.1,j.2,rfl,fun _=>⟨fun _ _=>⟨?_,?_⟩,fun _ d=>(by simp[ct]at d),fun a=>(by simp[ct]at a),fun a=>(by simp[ct]at a),fun a=>(by simp[ct]at a),fun a=>(by simp[ct]at a),fun a=>(by simp[ct]at a)⟩⟩
    ·show(upd s i _ ((i:Int).toNat)).ph≠0
     rw[aU,gI];exact Nat.one_ne_zero
    ·show ¬g.no ((i:Int).toNat)
     rw[aU];intro q;have:=(h.nv i c q).1;omega
  ·rw[aa m]
   refine same ⟨⟨(s i).ph,(s i).pr,(s i).at_⟩,2,decide ((s i).ph≠3)⟩ rfl fun _=>⟨fun _ d=>⟨?_,?_⟩,fun _ d=>?_,fun a=>(by simp[ct]at a),fun a=>(by simp[ct]at a),fun a=>(by simp[ct]at a),fun a=>(by simp[ct]at a),fun a=>(by simp[ct]at a)⟩
   ·show(s ((i:Int).toNat)).ph≠0
    rw[aU];exact m
   ·show ¬g.no ((i:Int).toNat)
    rw[aU];intro q;have A:=(h.nv i c q).1;have r:decide ((s i).ph≠3)=true:=d;exact cK r A
   ·have r:decide ((s i).ph≠3)=false:=d
    have L:=of_decide_eq_false r;exact h.s3 i c (by omega)
 ·split
  ·
   split
   ·rename_i B
    have j:=lX h c ⟨(s i).ph,f.a.toNat,(s i).at_⟩ (fun _=>False) False (Nat.le_of_lt B) (fun _ b=>b.elim) (fun b=>b.elim) (fun b=>b) (fun b=>b) (fun b=>⟨(h.s4 i c b).1,fun k d=>(h.s4 i c b).2 k (d.elim id False.elim)⟩) (fun b k d=>h.s0 i c b k (d.elim id False.elim)) (fun b=>h.s2 i c b) (fun b=>.inl (h.s3 i c b));rw[uu]at j;refine⟨_,j.1,j.2,rfl,fun _=>⟨fun a=>(by simp[ct]at a),fun a=>(by simp[ct]at a),fun _ _=>?_,fun a=>(by simp[ct]at a),fun a=>(by simp[ct]at a),fun a=>(by simp[ct]at a),fun a=>(by simp[ct]at a)⟩⟩;show Told zs (upd s i ⟨(s i).ph,f.a.toNat,(s i).at_⟩) g ((i:Int).toNat) f.a.toNat ⟨((s i).ph:Int),(f.a.toNat:Int),((s i).at_:Int)⟩;rw[aU];refine⟨by rw[gI];exact aj,Int.natCast_nonneg _,fun e=>h.s2 i c (by simp only at e;omega),fun e=>h.s3 i c (by simp only at e;omega),fun e=>?_,fun w C k M x=>?_⟩
    ·have t:(s i).ph=4∨(s i).ph=5:=by simp only at e;omega
     simp only[aU];rw[(h.s4 i c t).1]
    ·simp only at w C
     have N:¬((s i).ph=0∨(s i).ph=1):=fun b=>h.s0 i c b k x
     have t:(s i).ph=4∨(s i).ph=5:=by omega
     refine⟨by simp only;omega,?_⟩;have:=(h.s4 i c t).2 k x;simp only;omega
   ·exact same ⟨s i,4,false⟩ rfl fun _=>⟨fun a=>(by simp[ct]at a),fun a=>(by simp[ct]at a),fun _ d=>(by simp[ct]at d),fun a=>(by simp[ct]at a),fun a=>(by simp[ct]at a),fun a=>(by simp[ct]at a),fun a=>(by simp[ct]at a)⟩
  ·split
   ·rename_i D
    split
    ·rename_i O
     split
     ·rename_i j
      obtain⟨u,E⟩:=j;have P:=of_decide_eq_false E;obtain⟨-,Q⟩:=p.pe (by omega);have F:g.val f.a.toNat=f.ph.toNat:=by omega
      have o:=lX h c ⟨f.ph.toNat,f.a.toNat,f.a.toNat⟩ (fun y=>y=f.a.toNat) False u (fun y b=>by subst b;exact⟨by omega,u,aj⟩) (fun b=>b.elim) (fun _=>by show f.ph.toNat≠0;omega) (fun b=>by omega)
       (fun _=>⟨F,fun k d=>by
        rcases d with d|d
        ·exact bc (h.ap i k c d) u
        ·exact Nat.le_of_eq d⟩) (fun b=>by simp only at b;omega) (fun b=>by simp only at b;omega) (fun b=>by simp only at b;omega)
      refine⟨_,o.1,o.2,rfl,fun _=>⟨fun a=>(by simp[ct]at a),fun a=>(by simp[ct]at a),fun a=>(by simp[ct]at a),fun a=>(by simp[ct]at a),fun _ _=>?_,fun a=>(by simp[ct]at a),fun a=>(by simp[ct]at a)⟩⟩;show g.acc ((i:Int).toNat) f.a.toNat∨((i:Int).toNat=i∧f.a.toNat=f.a.toNat);exact .inr ⟨aU _,rfl⟩
     ·exact same ⟨s i,6,false⟩ rfl fun _=>⟨fun a=>(by simp[ct]at a),fun a=>(by simp[ct]at a),fun a=>(by simp[ct]at a),fun a=>(by simp[ct]at a),fun _ d=>(by simp[ct]at d),fun a=>(by simp[ct]at a),fun a=>(by simp[ct]at a)⟩
    ·exact same ⟨s i,0,false⟩ rfl fun e=>absurd rfl e
   ·split
    ·rename_i D
     split
     ·rename_i j
      have R:=cK j.1;have w:=of_decide_eq_false j.2;have o:=lX h c ⟨f.ph.toNat,(s i).pr,(s i).at_⟩ (fun _=>False) False aj (fun _ b=>b.elim) (fun b=>b.elim) (fun _=>by show f.ph.toNat≠0;omega) (fun b=>by omega) (fun b=>by simp only at b;omega) (fun b=>by simp only at b;omega) (fun b=>p.d2 (by omega) (by simp only at b;omega)) (fun b=>.inl (p.d3 (by omega) (by simp only at b;omega)));rw[uu]at o;exact⟨_,o.1,o.2,rfl,fun e=>absurd rfl e⟩
     ·exact same ⟨s i,0,false⟩ rfl fun e=>absurd rfl e
    ·exact same ⟨s i,0,false⟩ rfl fun e=>absurd rfl e
end
theorem hD(w:World)(h ty:TypeId)(b o e i:Nat)(a:Addr)(d f n:Nat)(c:List Value)(k:Nat.min d e=n)(l:c.length=n*9)(m:∀j v,c[j]?=some v->w.cell? (a.add j)=some v)(p:∀j,j<c.length->(w.cell? ⟨b,o+j,none⟩).isSome=true)(q:∀j,j<c.length->w.frozen? ⟨b,o+j,none⟩=false)(h1:∀v∈c,v.oneCell'=true):(Builtin.copy_ #[55,h] ty #[.slice (some ⟨b,o,none⟩) e i,.slice (some a) d f]).run prog w=.ok (goInt n) (w.setCells b o c):=by
 obtain⟨u,r,x,s,y⟩:=info_parts Tryz.infoFq;have t:=run_firstCells_some (P:=prog) w 9 n a d f c l m;have g:=run_storeCells_cells (P:=prog) b o c 0 w (by simpa using p) (by simpa using q) h1;simp only[Nat.add_zero]at g;simp[Builtin.copy_,run_underlying underlying55,Builtin.lenOf,Go.sizeOf,typeInfo,r,s,k,t,g]
theorem nX(w:World){o:Oper}{a:Act}{K:Act->World->Prop}{Q:Exit->Act->World->Prop}(d s:Operand)(t b:TypeId)(e:o.op=.call { callee:=.builtin .copy,args:=#[d,s],argTypes:=#[t,b] })(v c:Value)(f:a.eval d=v)(g:a.eval s=c){v':Value}{w':World}(i:(Builtin.copy_ #[t,b] o.type #[v,c]).run prog w=.ok v' w')(h:K (a.put o.dst v') w'):o.wp prog a w K Q:=by
 unfold Oper.wp execOp;simp only[e,resolve,invoke,builtin,Sem.run_bind,Sem.run_pure,Result.andThen_ok,List.map_toArray,List.map_cons,List.map_nil,f,g,i];exact h
theorem kK(w:World){ops:Array Oper}{rest:List Oper}{o:Oper}{a:Act}{Q:Exit->Act->World->Prop}(e:o.guard=none)(d s:Operand)(t b:TypeId)(f:o.op=.call { callee:=.builtin .copy,args:=#[d,s],argTypes:=#[t,b] })(v c:Value)(g:a.eval d=v)(i:a.eval s=c){v':Value}{w':World}(j:(Builtin.copy_ #[t,b] o.type #[v,c]).run prog w=.ok v' w')(h:wpList prog ops Q rest (a.put o.dst v') w'):wpList prog ops Q (o::rest) a w:=
 wpList_plain e fun _ k=>nX w d s t b f v c g i j (k _ _ h)
theorem jg{ops:Array Oper}{o:Oper}{a:Act}{w:World}{K:Act->World->Prop}{Q:Exit->Act->World->Prop}{E:Prop}(f:o.guard=none)(d x:Operand)(b c:TypeId)(g:o.op=Op.call { callee:=Callee.builtin Builtin.copy,args:=#[d,x],argTypes:=#[b,c] })(v e:Value)(h:a.eval d=v)(i:a.eval x=e){v':Value}{w':World}(j:(Builtin.copy_ #[b,c] o.type #[v,e]).run prog w=.ok v' w')(k:K (a.put o.dst v') w'):if Region.wanted o (yielded ops a.tmps)=true then Oper.wp prog o a w K Q else E:=by
 have l:Region.wanted o (yielded ops a.tmps)=true:=by simp[Region.wanted,f]
 rw[af l];exact nX w d x b c g v e h i j k
theorem aiq(w:World):(Go.sizeOf 125).run prog w=.ok 9 w:=by kernel_rfl
def iZ(L:List F9)(i:Nat)(F:F9):List F9:=L.take i++F::L.drop i
theorem qB(L:List F9)(i:Nat)(F:F9):am (iZ L i F)=(am L).take (i*9)++f9L F++(am L).drop (i*9):=by
 unfold iZ;rw[cE,iS,hJ,fA,List.append_assoc]
theorem pk(L:List F9)(i:Nat)(F:F9)(h:i<=L.length):(iZ L i F).length=L.length+1:=by unfold iZ;rw[aR,bI,bq,List.length_drop];omega
theorem aex(L:List F9)(i:Nat)(F:F9)(h:i<=L.length)(j:Nat):(am (iZ L i F))[j]?=if j<i*9 then(am L)[j]? else if j<i*9+9 then(f9L F)[j-i*9]? else(am L)[j-9]?:=by
 have a:((am L).take (i*9)).length=i*9:=by rw[bI,ba];omega
 rw[qB]
 by_cases b:j<i*9
 ·rw[af b,List.append_assoc,List.getElem?_append_left (by omega),List.getElem?_take_of_lt b]
 ·rw[aa b]
  by_cases c:j<i*9+9
  ·rw[af c,List.append_assoc,List.getElem?_append_right (by omega),a,List.getElem?_append_left (by rw[bJ];omega)]
  ·rw[aa c,List.getElem?_append_right (by rw[aR,a,bJ];omega),aR,a,bJ,List.getElem?_drop]
   congr 1
   omega
theorem ael(base b o n c i vb:Nat)(a:Array Value)(L:List F9)(F:F9)(w:World)(m:w.heap[b]?=some (.cells a 125 (0,0)))(T:base<=b)(E:L.length=n)(G:n+1<=c)(H:c<=maxLen)(U:o+c*9<=a.size)(u:∀j,j<n*9->a[o+j]?=(am L)[j]?)(hi:i<n)(r:w.heap[vb]?=some (.cells (f9L F).toArray 125 (0,0)))(I:vb≠b):Calls prog 117 #[.slice (some ⟨b,o,none⟩) n c,.int .i64 (i:Int),.slice (some ⟨vb,0,none⟩) 1 1] w fun e w'=>e=.returned (.slice (some ⟨b,o,none⟩) (n+1) c)∧OwnF w' base (.slice (some ⟨b,o,none⟩) (n+1) c) (iZ L i F)∧Kept (In1 b) w w':=by
 have a2:c<=9223372036854775807:=by unfold maxLen at H;omega
 have V:(n+1)*9<=c*9:=Nat.mul_le_mul_right 9 G;have J:∀d,d<n*9->w.cell? ⟨b,o+d,none⟩=(am L)[d]?:=fun d K=>by
  rw[ai m,u d K]
 have M:∀d,d<c*9->(w.cell? ⟨b,o+d,none⟩).isSome=true:=fun d K=>by
  rw[ai m,Array.getElem?_eq_getElem (by omega)];rfl
 have N:∀d,w.frozen? ⟨b,d,none⟩=false:=fun d=>dN m
 have W:=ba L;have p:(am (L.drop i)).length=(n-i)*9:=by rw[ba,List.length_drop,E]
 obtain⟨f,v⟩:=nmd (w.drew.setCells b (o+(i+1)*9) (am (L.drop i)));have x:o+(i+1)*9+(am (L.drop i)).length<=a.size:=by rw[p];omega
 obtain⟨q,s⟩:∃q,q=(a.toList.take (o+(i+1)*9)++am (L.drop i)++a.toList.drop (o+(i+1)*9+(am (L.drop i)).length)):=⟨_,rfl⟩;have y:Hid (f.heap[b]?=some (.cells q.toArray 125 (0,0))):=by
  rw[<-v.out,s];exact eo _ _ w.drew a m x
 have z:∀h,q[h]?=if h<o+(i+1)*9 then a.toList[h]? else if h<o+(i+1)*9+(am (L.drop i)).length then(am (L.drop i))[h-(o+(i+1)*9)]? else a.toList[h]?:=fun h=>by
  rw[s];exact jK _ _ _ _ (by rw[Array.length_toList (xs:=a)];exact x)
 have O:Hid (Kept (In1 b) w f):=by rw[<-v.out];exact(Kept.refl _ w).drew.trans (dX b _ _ _)
 have t:q.length=a.size:=by
  rw[s,aR,aR,bI,List.length_drop,p,Array.length_toList (xs:=a)];omega
 have X:∀k l A,(Builtin.copy_ #[55,55] k #[.slice (some ⟨b,o+(i+1)*9,none⟩) (n-i) l,.slice (some ⟨b,o+i*9,none⟩) (n+1-i) A]).run prog w.drew=.ok (goInt ((n-i:Nat):Int)) f:=fun k l A=>by
  rw[<-v.out];exact hD w.drew 55 k b (o+(i+1)*9) (n-i) l ⟨b,o+i*9,none⟩ (n+1-i) A (n-i) (am (L.drop i)) (by simp only[Nat.min_def];split<;>omega) p
   (fun j P g=>by
    have Y:=(List.getElem?_eq_some_iff.1 g).1;rw[p]at Y;rw[cZ];show w.cell? ⟨b,o+i*9+j,none⟩=some P;rw[Nat.add_assoc,J _ (by omega),<-g,fA,List.getElem?_drop])
   (fun j g=>by rw[p]at g;rw[Nat.add_assoc];exact M _ (by omega)) (fun j _=>N _) (gK _)
 have Z:∀k l,(Builtin.copy_ #[55,55] k #[.slice (some ⟨b,o+i*9,none⟩) (n+1-i) l,.slice (some ⟨vb,0,none⟩) 1 1]).run prog f=.ok (goInt 1) (f.setCells b (o+i*9) (f9L F)):=fun k l =>
  hD f 55 k b (o+i*9) _ l ⟨vb,0,none⟩ 1 1 1 (f9L F) (by simp only[Nat.min_def];split<;>omega) rfl
   (fun j P g=>by
    rw[cZ,ai (O.row r I),List.getElem?_toArray,Nat.zero_add];exact g)
   (fun j g=>by rw[ai y.out,List.getElem?_toArray,cG (by rw[t];rw[bJ]at g;omega)];rfl) (fun j _=>dN y) (oG F)
 have a0:∀B C,(callFunc 167 #[.slice (some ⟨vb,0,none⟩) 1 1,.slice (some ⟨b,o+(i+1)*9,none⟩) B C]).run prog w=.ok (.value (.bool false)) w:=fun B C=>by
  rw[run_callFunc_extern func167 (by kernel_rfl) (by kernel_rfl) (by kernel_rfl) (e:=Extern.SlicesOverlaps.overlaps #[55,55] #[4]) (by kernel_rfl),
   Lib.run_overlaps_apart w 55 4 125 underlying55 9 aiq ⟨vb,0,none⟩ ⟨b,o+(i+1)*9,none⟩ 1 1 B C I 125 125 9 a.size (by unfold World.shape?;rw[show w.heap[(⟨vb,0,none⟩:Addr).block]?=_ from r];rfl) (by unfold World.shape?;rw[show w.heap[(⟨b,o+(i+1)*9,none⟩:Addr).block]?=_ from m]) (by omega) (dN r) (dN r)]
  rfl
 have HF:Hid (OwnF (f.setCells b (o+i*9) (f9L F)) base (.slice (some ⟨b,o,none⟩) (n+1) c) (iZ L i F)):=by
  have Q:o+i*9+(f9L F).length<=q.length:=by rw[t,bJ];omega
  have hr:=eo (f9L F) (o+i*9) f _ y (by rw[List.size_toArray];exact Q);have D:(iZ L i F).length=n+1:=by rw[pk L i F (by omega),E]
  refine .inr ⟨b,o,c,_,by rw[D],T,hr,by rw[D];exact G,H,?_,fun j g=>?_⟩
  ·rw[List.size_toArray,aR,aR,bI,List.length_drop,List.toList_toArray,t,bJ];omega
  ·rw[D]at g
   rw[List.getElem?_toArray,List.toList_toArray,jK _ _ _ _ Q,aex L i F (by omega),bJ]
   by_cases R:j<i*9
   ·rw[af (by omega),af R,z,af (by omega),Array.getElem?_toList,u j (by omega)]
   ·rw[aa (by omega),aa R]
    by_cases S:j<i*9+9
    ·rw[af (by omega),af S,show o+j-(o+i*9)=j-i*9 by omega]
    ·rw[aa (by omega),aa S,z,aa (by omega),af (by omega),fA,List.getElem?_drop,show i*9+(o+j-(o+(i+1)*9))=j-9 by omega]
 have a3:¬(c=i+1):=by omega
 have a4:¬(c=i):=by omega
 have a5:i<=n+1:=by omega
 have a6:i+1<=n+1:=by omega
 have a7:IntKind.i64.wrap ((i:Int)+1)=(i:Int)+1:=by rw[IntKind.wrap_i64];omega
 have a8:(0:Int)<=(i:Int)+1:=by omega
 have a9:((i:Int)+1).toNat=i+1:=by omega
 have b0:(i:Int)<=(n:Int):=by omega
 have b1:(i:Int)<=(n:Int)+1:=by omega
 have a1:Hid (Kept (In1 b) w (f.setCells b (o+i*9) (f9L F))):=O.trans (dX b _ _ _);clear J M N m r u U W p t V s z x
 go_enter func117,ntmps117
 go_wp2_with (simp only[a0])
 go_region_law (refine jg rfl _ _ 55 55 rfl _ _ (by simp[Act.eval,Act.put]) (by simp[Act.eval,Act.put]) (X _ _ _) ?_)
 go_wp2_with (at_builtin;refine kK _ rfl _ _ 55 55 rfl _ _ rfl rfl (Z _ _) ?_)
 go_ret
 exact⟨rfl,HF,a1⟩
theorem qs(k:Nat):(Builtin.zeroCells (frV 0 0 0 0 0 false 0 0 0).cells k).size=k*9:=by rw[size_zeroCells];rfl
theorem aem(base b o n c i vb:Nat)(t:Array Value)(L:List F9)(F:F9)(w:World)(u:w.heap[b]?=some (.cells t 125 (0,0)))(a2:base<=w.heap.size)(H:L.length=n)(b5:n<=c)(a3:c<n+1)(b6:n<=1000000000000)(I:∀j,j<n*9->t[o+j]?=(am L)[j]?)(hi:i<n)(J:w.heap[vb]?=some (.cells (f9L F).toArray 125 (0,0))):Calls prog 117 #[.slice (some ⟨b,o,none⟩) n c,.int .i64 (i:Int),.slice (some ⟨vb,0,none⟩) 1 1] w fun e w'=>∃a,e=.returned (.slice (some ⟨w.heap.size,0,none⟩) (n+1) a)∧w'.ownsRow base 125 9 (.slice (some ⟨w.heap.size,0,none⟩) (n+1) a) (n+1) (am (iZ L i F))∧Below w.heap.size w w':=by
 obtain⟨Q,a4,a5,R,S⟩:=info_parts Tryz.infoFq;have a6:=ah u;have a7:=ah J;have T:∀l,l<n*9->w.cell? ⟨b,o+l,none⟩=(am L)[l]?:=fun l K=>by
  rw[ai u,I l K]
 have a8:=ba L;have m:(am (L.drop i)).length=(n-i)*9:=by rw[ba,List.length_drop,H]
 have p:(am (L.take i)).length=i*9:=by rw[ba,bI,H,Nat.min_eq_left (by omega)]
 have U:(n:Int)+1-(i:Int)=((n+1-i:Nat):Int):=by omega
 have M:i+(n+1-i)=n+1:=by omega
 have V:(Builtin.firstCells Q.size i (.slice (some ⟨b,o,none⟩) i c)).run prog w.drew=.ok (am (L.take i)).toArray w.drew:=by
  rw[R];exact run_firstCells_some w.drew 9 i ⟨b,o,none⟩ i c (am (L.take i)) p (fun j v g=>by
   have x:=(List.getElem?_eq_some_iff.1 g).1;rw[p]at x;rw[cZ];show w.cell? ⟨b,o+j,none⟩=some v;rw[T _ (by omega),<-g,hJ,List.getElem?_take_of_lt x])
 have y:∀h,(Builtin.append_ #[55,3] h #[.slice (some ⟨b,o,none⟩) i c,iV ((n:Int)+1-(i:Int))]).run prog w =
   .ok (.slice (some ⟨w.heap.size,0,none⟩) (n+1) (grownCap w (n+1) c 125)) (w.drew.alloc (.cells ((am (L.take i)).toArray++Builtin.zeroCells (frV 0 0 0 0 0 false 0 0 0).cells (n+1-i)++Builtin.zeroCells (frV 0 0 0 0 0 false 0 0 0).cells (grownCap w (n+1) c 125-(n+1))) 125)):=fun h=>by
  have W:=Lib.run_append_grow_zeros w 55 3 h 125 Q _ .i64 .i64 underlying55 underlying3 a4 a5 (some ⟨b,o,none⟩) i c (am (L.take i)) V (n+1-i) (by omega) (by rw[R];omega) (by omega) (by omega) (by rw[S];omega) (by rw[S,M];exact growslice_fits a3 (by omega));rw[M]at W;rw[U];exact W
 obtain⟨a,z⟩:∃a,a=grownCap w (n+1) c 125:=⟨_,rfl⟩;obtain⟨k,A⟩:∃k:Array Value,k=(am (L.take i)).toArray++Builtin.zeroCells (frV 0 0 0 0 0 false 0 0 0).cells (n+1-i)++Builtin.zeroCells (frV 0 0 0 0 0 false 0 0 0).cells (a-(n+1)):=⟨_,rfl⟩;rw[<-z]at y;rw[<-A]at y;have a9:n+1<=a:=by rw[z];exact grownCap_ge w _ _ _
 have N:a<=maxLen:=by rw[z];exact grownCap_le_maxLen w (n+1) c 125 (by unfold maxLen;omega)
 have B:k.size=a*9:=by
  rw[A,Array.size_append,Array.size_append,qs,qs,List.size_toArray,p];omega
 have X:k.toList.take (i*9)=am (L.take i):=by
  rw[A,Array.toList_append,Array.toList_append,List.append_assoc,List.toList_toArray,<-p];exact List.take_left
 obtain⟨f,q⟩:∃f,f=w.drew.alloc (.cells k 125):=⟨_,rfl⟩;rw[<-q]at y;have C:f.heap[w.heap.size]?=some (.cells k 125 (0,0)):=by rw[q];exact aB w.drew _
 have Y:f.heap[vb]?=some (.cells (f9L F).toArray 125 (0,0)):=by rw[q];exact(Below.heap_alloc w.drew _ _ a7).trans J
 have Z:f.heap[b]?=some (.cells t 125 (0,0)):=by rw[q];exact(Below.heap_alloc w.drew _ _ a6).trans u
 have O:bW w f:=by rw[q];exact aF.drew.alloc aj _
 have s:=eo (f9L F) (i*9) f k C (by rw[B,bJ];omega);have D:=dX w.heap.size (f9L F) (i*9) f;obtain⟨d,E⟩:∃d,d=f.setCells w.heap.size (i*9) (f9L F):=⟨_,rfl⟩;rw[<-E]at s D;have G:(k.toList.take (i*9)++f9L F++k.toList.drop (i*9+(f9L F).length)).length=a*9:=by
  rw[aR,aR,bI,List.length_drop,bJ,Array.length_toList,B];omega
 have a0:d.heap[b]?=some (.cells t 125 (0,0)):=D.row Z (fun e=>by have:b=w.heap.size:=e;omega);have b0:∀h r,(Builtin.copy_ #[55,55] h #[.slice (some ⟨w.heap.size,i*9,none⟩) (n+1-i) r,.slice (some ⟨vb,0,none⟩) 1 1]).run prog f=.ok (goInt 1) d:=fun h r=>by
  rw[E];exact hD f 55 h w.heap.size (i*9) (n+1-i) r ⟨vb,0,none⟩ 1 1 1 (f9L F) (by simp only[Nat.min_def];split<;>omega) rfl
   (fun j v g=>by rw[cZ,ai Y,List.getElem?_toArray,Nat.zero_add];exact g)
   (fun j g=>by rw[bJ]at g;rw[ai C,Array.getElem?_eq_getElem (by rw[B];omega)];rfl) (fun j _=>dN C) (oG F)
 have b1:∀h r P,(Builtin.copy_ #[55,55] h #[.slice (some ⟨w.heap.size,(i+1)*9,none⟩) (n-i) r,.slice (some ⟨b,o+i*9,none⟩) (n-i) P]).run prog d.drew=.ok (goInt ((n-i:Nat):Int)) (d.drew.setCells w.heap.size ((i+1)*9) (am (L.drop i))):=fun h r P =>
  hD d.drew 55 h w.heap.size ((i+1)*9) (n-i) r ⟨b,o+i*9,none⟩ (n-i) P (n-i) (am (L.drop i)) (by simp only[Nat.min_def];split<;>omega) m
   (fun j v g=>by
    have x:=(List.getElem?_eq_some_iff.1 g).1;rw[m]at x;rw[cZ];show d.cell? ⟨b,o+i*9+j,none⟩=some v;rw[ai a0,<-g,fA,List.getElem?_drop,<-I _ (by omega),Nat.add_assoc])
   (fun j g=>by
    rw[m]at g;show(d.cell? _).isSome=true;rw[ai s,List.getElem?_toArray,cG (by rw[G];omega)];rfl) (fun j _=>aK d _ _ _ _ s) (gK _)
 have a1:=eo (am (L.drop i)) ((i+1)*9) d.drew _ (show d.drew.heap[w.heap.size]?=_ from s) (by rw[List.size_toArray,G,m];omega);have b2:Hid (bW w (d.drew.setCells w.heap.size ((i+1)*9) (am (L.drop i)))):=by
  have h1:Kept (In1 w.heap.size) f (d.drew.setCells w.heap.size ((i+1)*9) (am (L.drop i))):=(D.trans (Kept.refl _ d).drew).trans (dX w.heap.size _ _ _);exact h1.below O.size (fun l K=>by rw[show l=w.heap.size from K];exact aj) O
 have HF:Hid ((d.drew.setCells w.heap.size ((i+1)*9) (am (L.drop i))).ownsRow base 125 9 (.slice (some ⟨w.heap.size,0,none⟩) (n+1) a) (n+1) (am (iZ L i F))):=by
  have b3:(iZ L i F).length=n+1:=by unfold iZ;rw[aR,bI,bq,List.length_drop,H];omega
  refine⟨by rw[ba,b3],.inr ⟨w.heap.size,a,_,rfl,a2,a1,a9,N,?_,?_⟩⟩
  ·rw[List.size_toArray,aR,aR,bI,List.length_drop,List.toList_toArray,G,m];omega
  ·rw[List.toList_toArray,List.toList_toArray,qB,X,<-hJ,<-fA]
   have hA:(am (L.take i)++f9L F++k.toList.drop (i*9+(f9L F).length)).take ((i+1)*9)=am (L.take i)++f9L F:=by
    rw[show(i+1)*9=(am (L.take i)++f9L F).length by rw[aR,p,bJ];omega];exact List.take_left
   rw[hA];have b4:(am (L.take i)++f9L F++am (L.drop i)).length=(n+1)*9:=by
    rw[aR,aR,p,bJ,m];omega
   rw[<-b4];exact List.take_left
 have b7:(c:Int)<(n:Int)+1:=by omega
 have b8:¬(a=i):=by omega
 have b9:¬(a=i+1):=by omega
 have c0:¬(c=i):=by omega
 have c1:IntKind.i64.wrap ((i:Int)+1)=(i:Int)+1:=by rw[IntKind.wrap_i64];omega
 have c2:(0:Int)<=(i:Int)+1:=by omega
 have c3:((i:Int)+1).toNat=i+1:=by omega
 have c4:(i:Int)<=(n:Int):=by omega
 have c5:(i:Int)<=(n:Int)+1:=by omega
 have c6:a<=9223372036854775807:=by unfold maxLen at N;omega
 have c7:=hid q;have c8:=E.symm;clear T V U M A z B X C Y Z s D G a0 a1 u J I a8 m p O q E N
 go_enter func117,ntmps117
 go_wp2_with (first
  | (at_builtin;refine Lib.wpList_append_run _ rfl _ _ _ _ rfl _ _ rfl rfl _ _ (y _) ?_)
  | (at_builtin;refine kK _ rfl _ _ 55 55 rfl _ _ rfl rfl (b0 _ _) ?_))
 go_region_law (refine jg rfl _ _ 55 55 rfl _ _ (by simp[Act.eval,Act.put]) (by simp[Act.eval,Act.put]) (b1 _ _ _) ?_)
 go_wp2
 go_ret
 exact⟨a,rfl,HF,b2⟩
structure FIn (w W:World) (f t d k a:Int) (y:Bool) (p1 p2 p3:Int):Prop where
 row:W.heap[w.heap.size]?=some (.cells #[.int .i64 f,.int .i64 t,.int .i64 d,.int .i64 k,.int .i64 a,.bool y,.int .i64 p1,.int .i64 p2,.int .i64 p3] 125 (0,0))
theorem FIn.later{w W V:World}{f t d k a:Int}{y:Bool}{b c e:Int}(h:FIn w W f t d k a y b c e)(g:Below W.heap.size W V):FIn w V f t d k a y b c e:=⟨(g.block _ (ah h.row)).trans h.row⟩
section
variable {w:World} {lb id n cap:Nat} {deal att:Int} {aw:Option Addr} {st:ByteArray} {wait:Int} {vh:Value} {hs:List F9} {ph seen:Int}
theorem uv(f:Nat)(k:Int)(y:Bool)(c d g:Int)(x:F9)(h:RLd w lb id n cap deal att aw st k vh hs ph seen)(E:hs.length<=1000)(F:k≠0)(S:f<n)(l:bi hs f=some x):Calls prog 88 #[.pointer (some ⟨lb,0,none⟩),frV f id deal k att y c d g] w fun e w'=>e=.returned (.slice none 0 0)∧Below w.heap.size w w':=by
 obtain⟨a,i⟩:=nmd (w.alloc (.cells #[iV (f:Int),iV (id:Int),iV deal,iV k,iV att,.bool y,iV c,iV d,iV g] 125));have j:Hid (bW w a):=by rw[<-i.out];exact aD
 have m:Hid (FIn w a f id deal k att y c d g):=by rw[<-i.out];exact⟨aB w _⟩
 obtain⟨o,p,q,r,s,t,u,v,z⟩:=bH m.row;have A:=hid (h.later j);obtain⟨G,H,I,J,K,L,M,N,O⟩:=A.cells;have T:=i.out;have U:(k==0)=false:=beq_eq_false_iff_ne.2 F;have V:¬(n:Int)<=(f:Int):=by omega
 have P:=hid l;obtain⟨W,X,Y,Z,xa,xy,a0,a1,a2⟩:=x;clear h l
 go_enter func88,ntmps88
 go_wp2_with fail
 go_quiet (fail)
 have b:=hid (aJ (Below.refl a.heap.size a) nq);generalize a.drewN nq=a3 at b ⊢;have Q:=hid (A.later b);have R:=hid (m.later b);have B:=hid (j.trans (b.mono j.size));clear o p q r s t u v z G H I J K L M N O;obtain⟨o,p,q,r,s,t,u,v,z⟩:=bH R.row
 go_wp2_with fail
 refine(kg lb id n cap deal att aw st k vh hs ph seen f _ Q E).mono ?_;rw[P.out];unfold frO;simp only[Option.isSome];rintro e w1 ⟨rfl,C⟩;have D:=hid (B.trans (C.mono B.size));clear C
 go_wp2_with fail
 go_ret
 exact⟨rfl,D.alloc D.size _⟩
end
theorem afo(f t d k a:Int)(y:Bool)(ph pr pa:Int)(w:World)(h:mA f t d k a ph pr pa):Calls prog 181 #[frV f t d k a y ph pr pa] w fun e w'=>e=.returned (.int .i64 0)∧Below w.heap.size w w':=by
 obtain⟨b,c⟩:=nmd (w.alloc (.cells #[iV f,iV t,iV d,iV k,iV a,.bool y,iV ph,iV pr,iV pa] 125));have g:Hid (bW w b):=by rw[<-c.out];exact aD
 have i:Hid (b.heap[w.heap.size]?=some (.cells #[iV f,iV t,iV d,iV k,iV a,.bool y,iV ph,iV pr,iV pa] 125 (0,0))):=by rw[<-c.out];exact aB w _
 obtain⟨j,l,m,n,o,p,q,r,s⟩:=bH i;have u:=c.out;obtain⟨⟨v,x⟩,⟨z,A⟩,⟨B,C⟩,⟨D,E⟩,⟨F,G⟩,⟨H,I⟩,⟨J,K⟩,⟨L,M⟩⟩:=h
 go_enter func181,ntmps181
 go_wp2_with fail
 go_ret
 exact⟨rfl,g⟩
end Go.Proofs.YtaehdgemkafinaaGreatDoor
