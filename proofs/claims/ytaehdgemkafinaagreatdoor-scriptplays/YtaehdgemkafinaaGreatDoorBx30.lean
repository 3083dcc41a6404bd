/-
  On the way to SPlaysProof: LA O6B O6C O6D.
-/
import Derived.Test.YtaehdgemkafinaaGreatDoorBx15
import Derived.Test.YtaehdgemkafinaaGreatDoorBx28
set_option maxHeartbeats 8000000
set_option maxRecDepth 100000
namespace Go.Proofs.YtaehdgemkafinaaGreatDoor
open Go.RowKit
open Go.Proofs.Tryz
theorem aZ{a:Act}{i:Nat}{v:Value}(h:a.eval (.tmp i)=v):a.tmps[i]?.getD undef=v:=by
 unfold Act.eval at h
 simpa using h
def gY(lb fb:Nat)(vh:Value)(F:F9)(w':World):Prop:=w'.cell? ⟨lb,6,none⟩=some vh∧w'.cell? ⟨fb,0,none⟩=some (.int .i64 F.f)∧w'.cell? ⟨fb,1,none⟩=some (.int .i64 F.t)∧w'.cell? ⟨fb,2,none⟩=some (.int .i64 F.d)∧w'.cell? ⟨fb,3,none⟩=some (.int .i64 F.k)∧w'.cell? ⟨fb,4,none⟩=some (.int .i64 F.a)∧w'.cell? ⟨fb,5,none⟩=some (.bool F.y)∧w'.cell? ⟨fb,6,none⟩=some (.int .i64 F.ph)∧w'.cell? ⟨fb,7,none⟩=some (.int .i64 F.pr)∧w'.cell? ⟨fb,8,none⟩=some (.int .i64 F.pa)
theorem aje{Q:Exit->Act->World->Prop}(a:Act)(w:World)(lb e:Nat)(vh:Value)(F:F9)(n:Nat)(xs:List Value)(base:Nat)(hz:124<a.tmps.size)(h0:a.eval (.tmp 0)=.pointer (some ⟨lb,0,none⟩))(h3:a.eval (.tmp 3)=.pointer (some ⟨e,0,none⟩))(k:gY lb e vh F w)(a3:lb<w.heap.size)(a4:e<w.heap.size)(a5:vh.ownBlock≠some lb)(a6:vh.ownBlock≠some e)(o:w.ownsRow base 125 9 vh n xs)(hn:n<=1000000000000)(hb:base<=w.heap.size)(g:∀c (d:Nat) v (a:Act) w,Q (.panic c) (a.put (some d) v) w->Q (.panic c) a w)(p:∀a' h i w',w'.ownsRow base 125 9 (.slice h (n+1) i) (n+1) (xs++f9L F)->(w.drew.alloc (.cells (f9L F).toArray 125)).grownBy w' vh.ownBlock->((Value.slice h (n+1) i).ownBlock=vh.ownBlock∨(Value.slice h (n+1) i).ownBlock=some (w.drew.alloc (.cells (f9L F).toArray 125)).heap.size) ->
   a'=(((((((a.put (some 118) (.pointer (some ⟨lb,0,none⟩))).put (some 119) (.pointer (some ⟨lb,0,none⟩))).put (some 120) (.pointer (some ⟨lb,6,none⟩))).put (some 121) vh).put (some 122) (frV F.f F.t F.d F.k F.a F.y F.ph F.pr F.pa)).put (some 123) (.slice (some ⟨w.heap.size,0,none⟩) 1 1)).put (some 124) (.slice h (n+1) i)).put (some 7) (.slice h (n+1) i)->Q .normal a' w'):(Code.region 14 #[{ dst:=some 118,op:=Op.move (Operand.tmp 0),type:=111,pos:= "world.go:175",after:=#[],guard:=none },{ dst:=some 119,op:=Op.nilCheck (Operand.tmp 118),type:=0,pos:= "world.go:175",after:=#[{ on:=0,ground:=Ground.data }],guard:=none },{ dst:=some 120,op:=Op.fieldAddr 121 (Operand.tmp 119) 6,type:=0,pos:= "world.go:175",after:=#[{ on:=1,ground:=Ground.data }],guard:=none },{ dst:=some 121,op:=Op.load 55 (Operand.tmp 120),type:=55,pos:= "world.go:175",after:=#[{ on:=2,ground:=Ground.data }],guard:=none },{ dst:=some 122,op:=Op.load 125 (Operand.tmp 3),type:=125,pos:= "world.go:175",after:=#[],guard:=none },{ dst:=some 123,op:=Op.buildSlice 55 1 #[(0,Operand.tmp 122)],type:=55,pos:= "world.go:175",after:=#[{ on:=4,ground:=Ground.data }],guard:=none },{ dst:=some 124,op:=Op.call { callee:=Callee.builtin Builtin.append,args:=#[Operand.tmp 121,Operand.tmp 123],argTypes:=#[55,55] },type:=55,pos:= "world.go:175",after:=#[{ on:=3,ground:=Ground.data },{ on:=5,ground:=Ground.data }],guard:=none },{ dst:=some 7,op:=Op.assign (Operand.tmp 124),type:=55,pos:= "world.go:175",after:=#[{ on:=6,ground:=Ground.data },{ on:=6,ground:=Ground.chain },{ on:=0,ground:=Ground.phase },{ on:=1,ground:=Ground.phase },{ on:=2,ground:=Ground.phase },{ on:=3,ground:=Ground.phase },{ on:=4,ground:=Ground.phase },{ on:=5,ground:=Ground.phase },{ on:=6,ground:=Ground.phase }],guard:=none }] true).wp prog Q a w:=by
 refine wp_region_held_drew (S:=gY lb e vh F) (by kernel_rfl) k (fun l=>?_);refine wpAnyH_take (i:=0) (oi:={ dst:=some 118,op:=Op.move (Operand.tmp 0),type:=111,pos:= "world.go:175",after:=#[],guard:=none }) (v:=(pV lb)) rfl (by kernel_rfl) (by kernel_rfl) (by kernel_rfl) (fun c a w j=>g c _ _ a w j) (Or.inl ⟨by rfl,?_⟩) l ?_
 ·intro w f
  unfold gY at f;obtain⟨L,M,N,O,P,R,S,T,U,V⟩:=f;have q:=aZ h0;clear k o p g
  go_simp
 change wpAnyH _ _ _ _ _ _ _ (Act.put a (some 118) (pV lb)) _;obtain⟨t,u⟩:=nmb (Act.put a (some 118) (pV lb));rw[<-u.out];have z1:124<t.tmps.size:=by rw[u.out,Act.size_put];exact hz
 have a8:t.eval (.tmp 118)=(pV lb):=by rw[u.out];exact eP _ _ _ (by have:=hz;omega)
 have a9:t.eval (.tmp 3)=pV e:=by rw[u.out,bE _ _ _ _ (by decide)];exact h3
 refine wpAnyH_take (i:=1) (oi:={ dst:=some 119,op:=Op.nilCheck (Operand.tmp 118),type:=0,pos:= "world.go:175",after:=#[{ on:=0,ground:=Ground.data }],guard:=none }) (v:=(pV lb)) rfl (by kernel_rfl) (by kernel_rfl) (by kernel_rfl) (fun c a w j=>g c _ _ a w j) (Or.inl ⟨by rfl,?_⟩) l ?_
 ·intro w f
  unfold gY at f;obtain⟨L,M,N,O,P,R,S,T,U,V⟩:=f;have q:=aZ a8;clear k o p g
  go_simp
 change wpAnyH _ _ _ _ _ _ _ (Act.put t (some 119) (pV lb)) _;obtain⟨x,y⟩:=nmb (Act.put t (some 119) (pV lb));rw[<-y.out];have z2:124<x.tmps.size:=by rw[y.out,Act.size_put];exact z1
 have b0:x.eval (.tmp 119)=(pV lb):=by rw[y.out];exact eP _ _ _ (by have:=z1;omega)
 have b1:x.eval (.tmp 3)=pV e:=by rw[y.out,bE _ _ _ _ (by decide)];exact a9
 refine wpAnyH_take (i:=2) (oi:={ dst:=some 120,op:=Op.fieldAddr 121 (Operand.tmp 119) 6,type:=0,pos:= "world.go:175",after:=#[{ on:=1,ground:=Ground.data }],guard:=none }) (v:=(.pointer (some ⟨lb,6,none⟩))) rfl (by kernel_rfl) (by kernel_rfl) (by kernel_rfl) (fun c a w j=>g c _ _ a w j) (Or.inl ⟨by rfl,?_⟩) l ?_
 ·intro w f
  unfold gY at f;obtain⟨L,M,N,O,P,R,S,T,U,V⟩:=f;have q:=aZ b0;clear k o p g
  go_simp
 change wpAnyH _ _ _ _ _ _ _ (Act.put x (some 120) (.pointer (some ⟨lb,6,none⟩))) _;obtain⟨z,A⟩:=nmb (Act.put x (some 120) (.pointer (some ⟨lb,6,none⟩)));rw[<-A.out];have z3:124<z.tmps.size:=by rw[A.out,Act.size_put];exact z2
 have b2:z.eval (.tmp 120)=(.pointer (some ⟨lb,6,none⟩)):=by rw[A.out];exact eP _ _ _ (by have:=z2;omega)
 have b3:z.eval (.tmp 3)=pV e:=by rw[A.out,bE _ _ _ _ (by decide)];exact b1
 refine wpAnyH_take (i:=3) (oi:={ dst:=some 121,op:=Op.load 55 (Operand.tmp 120),type:=55,pos:= "world.go:175",after:=#[{ on:=2,ground:=Ground.data }],guard:=none }) (v:=vh) rfl (by kernel_rfl) (by kernel_rfl) (by kernel_rfl) (fun c a w j=>g c _ _ a w j) (Or.inl ⟨by rfl,?_⟩) l ?_
 ·intro w f
  unfold gY at f;obtain⟨L,M,N,O,P,R,S,T,U,V⟩:=f;have q:=aZ b2;clear k o p g
  go_simp
 change wpAnyH _ _ _ _ _ _ _ (Act.put z (some 121) vh) _;obtain⟨B,C⟩:=nmb (Act.put z (some 121) vh);rw[<-C.out];have z4:124<B.tmps.size:=by rw[C.out,Act.size_put];exact z3
 have b4:B.eval (.tmp 121)=vh:=by rw[C.out];exact eP _ _ _ (by have:=z3;omega)
 have e3:B.eval (.tmp 3)=pV e:=by rw[C.out,bE _ _ _ _ (by decide)];exact b3
 refine wpAnyH_take (i:=4) (oi:={ dst:=some 122,op:=Op.load 125 (Operand.tmp 3),type:=125,pos:= "world.go:175",after:=#[],guard:=none }) (v:=(frV F.f F.t F.d F.k F.a F.y F.ph F.pr F.pa)) rfl (by kernel_rfl) (by kernel_rfl) (by kernel_rfl) (fun c a w j=>g c _ _ a w j) (Or.inl ⟨by rfl,?_⟩) l ?_
 ·intro w f
  unfold gY at f;obtain⟨L,M,N,O,P,R,S,T,U,V⟩:=f;have q:=aZ e3;clear k o p g
  go_simp
 change wpAnyH _ _ _ _ _ _ _ (Act.put B (some 122) (frV F.f F.t F.d F.k F.a F.y F.ph F.pr F.pa)) _;obtain⟨D,E⟩:=nmb (Act.put B (some 122) (frV F.f F.t F.d F.k F.a F.y F.ph F.pr F.pa));rw[<-E.out];have z5:124<D.tmps.size:=by rw[E.out,Act.size_put];exact z4
 have b5:D.eval (.tmp 122)=(frV F.f F.t F.d F.k F.a F.y F.ph F.pr F.pa):=by rw[E.out];exact eP _ _ _ (by have:=z4;omega)
 have b6:D.eval (.tmp 121)=vh:=by rw[E.out,bE _ _ _ _ (by decide)];exact b4
 obtain⟨r,G⟩:=nmd (w.drew.alloc (.cells (f9L F).toArray 125));have H:Hid (bW w r):=by rw[<-G.out];exact aF.drew.alloc aj _
 have a0:Hid (∀s,(∀b,b<w.heap.size->vh.ownBlock≠some b->s.heap[b]?=w.heap[b]?)->gY lb e vh F s):=by
  intro s hW;have c1:=World.cell?_of_block (w:=w) (w':=s) (a:=⟨lb,6,none⟩) (hW lb a3 a5);have m:∀W,s.cell? ⟨e,W,none⟩=w.cell? ⟨e,W,none⟩:=fun W=>World.cell?_of_block (w:=w) (w':=s) (a:=⟨e,W,none⟩) (hW e a4 a6)
  unfold gY at k ⊢;rw[c1,m,m,m,m,m,m,m,m,m];exact k
 have b7:Hid (gY lb e vh F r):=a0.out r (fun b X _=>H.block b X);refine wpAnyH_ready (rs:=[5]) (by kernel_rfl) (by simp) ?_;refine AllReadyH.cons (o:={ dst:=some 123,op:=Op.buildSlice 55 1 #[(0,Operand.tmp 122)],type:=55,pos:= "world.go:175",after:=#[{ on:=4,ground:=Ground.data }],guard:=none }) rfl (fun Y I=>?_) AllReadyH.nil;have q:=aZ b5;have a1:=G.out;have c8:w.drew.alloc (.cells #[iV F.f,iV F.t,iV F.d,iV F.k,iV F.a,.bool F.y,iV F.ph,iV F.pr,iV F.pa] 125)=r:=a1;have HQ:=hid p;have b8:=hid g;have b9:=hid o;have c9:=hid k;clear p g o k a1 l
 go_simp
 refine I.out _ _ b7 (fun l=>?_);clear I Y;change wpAnyH _ _ _ _ _ _ _ (Act.put D (some 123) (.slice (some ⟨w.heap.size,0,none⟩) 1 1)) _;obtain⟨J,K⟩:=nmb (Act.put D (some 123) (.slice (some ⟨w.heap.size,0,none⟩) 1 1));rw[<-K.out];have z6:124<J.tmps.size:=by rw[K.out,Act.size_put];exact z5
 have c0:J.eval (.tmp 123)=.slice (some ⟨w.heap.size,0,none⟩) 1 1:=by rw[K.out];exact eP _ _ _ (by have:=z5;omega)
 have c2:J.eval (.tmp 121)=vh:=by rw[K.out,bE _ _ _ _ (by decide)];exact b6
 refine wpAnyH_ready (rs:=[6]) (by kernel_rfl) (by simp) ?_;refine AllReadyH.cons (o:={ dst:=some 124,op:=Op.call { callee:=Callee.builtin Builtin.append,args:=#[Operand.tmp 121,Operand.tmp 123],argTypes:=#[55,55] },type:=55,pos:= "world.go:175",after:=#[{ on:=3,ground:=Ground.data },{ on:=5,ground:=Ground.data }],guard:=none }) rfl (fun Y I=>?_) AllReadyH.nil;refine qM rfl (.tmp 121) (.tmp 123) rfl base n vh xs ⟨w.heap.size,0,none⟩ 1 F c2 c0 (dC b9 H aj) (by rw[<-G.out];exact gE w.drew 125 (f9L F)) hn (bc hb H.size) ?_;intro h i w3 c3 a2 c4;refine I.out _ _ (a0 w3 (fun b X c5=>(a2.block b (bm X H.size) (fun c6=>c5 c6.symm)).trans (H.block b X))) (fun l=>?_);clear I Y;obtain⟨a7,Z⟩:=nmb (Act.put J (some 124) (.slice h (n+1) i));change wpAnyH _ _ _ _ _ _ _ (Act.put J (some 124) (.slice h (n+1) i)) _;rw[<-Z.out];have c7:a7.eval (.tmp 124)=.slice h (n+1) i:=by rw[Z.out];exact eP _ _ _ z6
 refine wpAnyH_take (i:=7) (oi:={ dst:=some 7,op:=Op.assign (Operand.tmp 124),type:=55,pos:= "world.go:175",after:=#[{ on:=6,ground:=Ground.data },{ on:=6,ground:=Ground.chain },{ on:=0,ground:=Ground.phase },{ on:=1,ground:=Ground.phase },{ on:=2,ground:=Ground.phase },{ on:=3,ground:=Ground.phase },{ on:=4,ground:=Ground.phase },{ on:=5,ground:=Ground.phase },{ on:=6,ground:=Ground.phase }],guard:=none }) (v:=.slice h (n+1) i) rfl (by kernel_rfl) (by kernel_rfl) (by kernel_rfl) (fun c a w j=>b8 c _ _ a w j) (Or.inl ⟨by rfl,?_⟩) l ?_
 ·intro w f
  have q:=aZ c7
  go_simp
 change wpAnyH _ _ _ _ _ _ _ (Act.put a7 (some 7) (.slice h (n+1) i)) _;refine wpAnyH_done (by kernel_rfl) ?_ _;refine HQ _ h i w3 c3 (by rw[G.out];exact a2) (by rw[G.out];exact c4) ?_;rw[Z.out,K.out,E.out,C.out,A.out,y.out,u.out]
def ql:Code->Option (Array Oper)
 | .region _ ops d=>if d then some ops else none
 | .seq a b=>(ql a).orElse fun _=>ql b
 | .block _ b=>ql b
 | _=>none
def eK(f:Func):Array Oper:=(f.body.bind ql).getD #[]
def ajw:Oper:={ dst:=none,op:=.move (.tmp 0),type:=0,pos:= "",after:=#[],guard:=none }
def dT(f:Func)(k:Nat):Oper:=((eK f)[k]?).getD ajw
def ka(o:Oper):Op×Option Nat×Option (Nat×Bool):=(o.op,o.dst,o.guard)
theorem xo{f:Func}{k:Nat}(h:k<(eK f).size):(eK f)[k]?=some (dT f k):=by
 unfold dT;rw[Array.getElem?_eq_getElem h];rfl
theorem jB{f:Func}{n:Nat}{g:Nat->Nat}{p:Nat->Op×Option Nat×Option (Nat×Bool)}(h:(List.range n).map (fun i=>ka (dT f (g i)))=(List.range n).map p){i:Nat}(a:i<n):(dT f (g i)).op=(p i).1∧(dT f (g i)).dst=(p i).2.1∧(dT f (g i)).guard=(p i).2.2:=by
 have:=List.map_inj_left.1 h i (List.mem_range.2 a);rw[<-this];exact⟨rfl,rfl,rfl⟩
theorem lR:(eK Tryz.f17).size=79:=by kernel_rfl
theorem adm:((eK Tryz.f17).toList.zipIdx.all fun p=>p.1.after.all fun e=>decide (e.on<p.2))=true:=by kernel_rfl
theorem af3:∀(i:Nat) (o:Oper),(eK Tryz.f17)[i]?=some o->∀e,e∈o.after.toList->e.on<i:=by
 intro i o b e c;have d:(o,i)∈(eK Tryz.f17).toList.zipIdx:=by
  rw[List.mem_zipIdx_iff_getElem?,<-b];simp
 have a:=List.all_eq_true.1 adm _ d;simp only[Array.all_eq_true']at a;exact cK (a e (Array.mem_toList_iff.1 c))
theorem uT:ka (dT Tryz.f17 0)=(Op.makeMap 48 none,some 3,none):=by kernel_rfl
theorem af1:(List.range 19).map (fun i=>ka (dT Tryz.f17 (4*i+1)))=(List.range 19).map (fun i=>(Op.load 44 (.tmp 1),some (3*i+4),none)):=by kernel_rfl
theorem afV:(List.range 19).map (fun i=>ka (dT Tryz.f17 (4*i+2)))=(List.range 19).map (fun i=>(if i=0 then Op.makeFunc (.func 36) #[.tmp 4] #[]else Op.makeFunc (.func (fnO i)) #[] #[.tmp 1],some (3*i+5),none)):=by kernel_rfl
theorem af5:(List.range 12).map (fun i=>ka (dT Tryz.f17 (4*(i+1)+3)))=(List.range 12).map (fun i=>(Op.call { callee:=.value (.func 37),args:=#[.tmp (3*(i+1)+4),.const (.string (ef (i+1))),.tmp (3*(i+1)+5)],argTypes:=#[44,9,87] },some (3*(i+1)+6),none)):=by kernel_rfl
theorem aeB:(List.range 6).map (fun i=>ka (dT Tryz.f17 (4*(i+13)+3)))=(List.range 6).map (fun i=>(Op.call { callee:=.value (.func 62),args:=#[.tmp (3*(i+13)+4),.const (.string (ef (i+13))),.tmp (3*(i+13)+5)],argTypes:=#[44,9,82] },some (3*(i+13)+6),none)):=by kernel_rfl
theorem pY:ka (dT Tryz.f17 3)=(Op.build 84 #[(0,.const (.string (ef 0))),(1,.const (.bool true)),(2,.tmp 5)],some 6,none):=by kernel_rfl
theorem aie:(List.range 19).map (fun i=>ka (dT Tryz.f17 (4*i+4)))=(List.range 19).map (fun i=>(Op.insert 48 (.tmp 3) (.const (.string ⟨(dh.getD i []).toArray⟩)) (.tmp (3*i+6)),none,none)):=by kernel_rfl
theorem ahK:(List.range 2).map (fun i=>ka (dT Tryz.f17 (i+77)))=(List.range 2).map (fun i=>(if i=0 then Op.move (.tmp 3)else Op.assign (.tmp 61),if i=0 then some 61 else some 2,none)):=by kernel_rfl
theorem aef:((List.range 19).all fun i=>((dT Tryz.f17 (4*i+3)).after.any fun e=>e.on==4*i+2&&Region.binds .any e)&&(i==0||((dT Tryz.f17 (4*i+3)).after.any fun e=>e.on==4*i+1&&Region.binds .any e))&&((dT Tryz.f17 (4*i+4)).after.any fun e=>e.on==0&&Region.binds .any e)&&((dT Tryz.f17 (4*i+4)).after.any fun e=>e.on==4*i+3&&Region.binds .any e))=true:=by kernel_rfl
theorem nB:(((dT Tryz.f17 2).after.any fun e=>e.on==1&&Region.binds .any e)&&((dT Tryz.f17 77).after.any fun e=>e.on==0&&Region.binds .any e)&&((dT Tryz.f17 78).after.any fun e=>e.on==77&&Region.binds .any e))=true:=by kernel_rfl
theorem fL{s:Bs}{i:Nat}(h:dB s=some i):i<19∧dh[i]?=some s:=by
 unfold dB at h;obtain⟨a,b,-⟩:=List.findIdx?_eq_some_iff_getElem.1 h;refine⟨a,?_⟩;rw[cG a];rw[eq_of_beq b]
theorem vV:dh.Nodup:=by decide +kernel
theorem ox{i:Nat}{s:Bs}(h:dh[i]?=some s):dB s=some i:=by
 have a:i<dh.length:=by
  rcases bU i dh.length with b|b
  ·exact b
  ·rw[List.getElem?_eq_none b]at h;cases h
 unfold dB;rw[List.findIdx?_eq_some_iff_getElem];rw[cG a]at h;have c:=bF h;refine⟨a,by rw[c];simp,fun d g=>?_⟩;intro e;have f:=eq_of_beq e;have:=(List.getElem?_inj (by omega) vV).1 ((cG (show d<dh.length by omega)).trans ((congrArg some (f.trans c.symm)).trans (cG a).symm));omega
def fp(k:Nat):Nat:=if k=0 then 3 else if k=77 then 61 else if k=78 then 2 else if k%4=1 then 3*(k / 4)+4 else if k%4=2 then 3*(k / 4)+5 else 3*(k / 4)+6
theorem agd{k j:Nat}(a:k<79)(b:k=0∨k%4≠0 )(c:j<79)(d:j=0∨j%4≠0)(h:j≠k):fp k≠fp j:=by
 unfold fp
 repeat' split
 all_goals omega
theorem aaf{i:Nat}(h:i<19):fp (4*i+1)=3*i+4:=by
 unfold fp
 repeat' split
 all_goals omega
theorem zz{i:Nat}(h:i<19):fp (4*i+2)=3*i+5:=by
 unfold fp
 repeat' split
 all_goals omega
theorem qO{i:Nat}(_h:i<19):fp (4*i+3)=3*i+6:=by
 unfold fp
 repeat' split
 all_goals omega
theorem xI{k:Nat}(f:k<79)(g:k=0∨k%4≠0):2<=fp k∧fp k<=61:=by
 unfold fp
 by_cases a:k=0
 ·rw[af a];omega
 ·rw[aa a]
  by_cases b:k=77
  ·rw[af b];omega
  ·rw[aa b]
   by_cases c:k=78
   ·rw[af c];omega
   ·rw[aa c]
    by_cases d:k%4=1
    ·rw[af d];omega
    ·rw[aa d]
     by_cases e:k%4=2
     ·rw[af e];omega
     ·rw[aa e];omega
theorem xN{k:Nat}(a:k=0∨k%4≠0)(i:Nat):4*i+4≠k:=by omega
def atO(L:Nat->Bool)(a:Act)(s:Bs)(z:DataW Value):DataW Value:=match dB s with
 | none=>z
 | some i=>if L (4*i+4)=true then .held (a.eval (.tmp (3*i+6)))else z
def ajq(W w:World)(L:Nat->Bool)(a:Act)(f:Nat):Prop:=∃mb n D,a.eval (.tmp 3)=.map (some mb)∧W.heap.size<=mb∧w.ownsMap prog 9 elO mb n D∧n+f<=100∧∀s z,D.atKey (.string s) z=atO L a s z
structure CiO (df:List Deferred) (W:World) (pb bb f:Nat) (L:Nat->Bool) (a:Act) (w:World):Prop where
 sz:a.tmps.size=62
 df:a.defers=df
 e1:a.eval (.tmp 1)=az bb
 box:bR w bb (az pb)
 lb:pb<bb
 lw:pb<W.heap.size
 bel:Below W.heap.size W w
 ld:∀i,i<19->L (4*i+1)=true->a.eval (.tmp (3*i+4))=az pb
 mf:∀i,i<19->L (4*i+2)=true->a.eval (.tmp (3*i+5))=(if i=0 then .func (.func 36) #[az pb] #[]else fj (fnO i) bb)
 cl:∀i,i<19->L (4*i+3)=true->EntO w pb bb i (a.eval (.tmp (3*i+6)))
 mp:L 0=true->ajq W w L a f
 e61:L 77=true->a.eval (.tmp 61)=a.eval (.tmp 3)
 e2:L 78=true->a.eval (.tmp 2)=a.eval (.tmp 3)
 ord:∀i,i<19->L (4*i+4)=true->L (4*i+3)=true∧L 0=true
 o77:(L 77=true->L 0=true)∧(L 78=true->L 0=true)
section
variable {df:List Deferred} {W w w':World} {pb bb f k:Nat} {L L':Nat→Bool} {a:Act} {v:Value}
theorem tA{b n:Nat}{c:DataW Value}(h:w.ownsMap prog 9 elO b n c)(e:Below w.heap.size w w'):w'.ownsMap prog 9 elO b n c:=by
 obtain⟨g,i,d,j,l,m⟩:=h;exact⟨g,i,(e.block _ (ah d)).trans d,j,l,m⟩
theorem CiO.next(h:CiO df W pb bb (f+1) L a w)(x:k<79)(q:k=0∨k%4≠0)(g:L k=false)(F:∀j,L' j=if j=k then true else L j)(y:Below w.heap.size w w')(K:∀i,i<19->k=4*i+1->v=az pb)(M:∀i,i<19->k=4*i+2->v=(if i=0 then .func (.func 36) #[az pb] #[]else fj (fnO i) bb))(N:∀i,i<19->k=4*i+3->EntO w' pb bb i v)(O:k=0->∃l,v=.map (some l)∧W.heap.size<=l∧w'.ownsMap prog 9 elO l 0 (.map [])∧f<=100)(G:k=77->L 0=true∧v=a.eval (.tmp 3))(H:k=78->L 0=true∧v=a.eval (.tmp 3)):CiO df W pb bb f L' (a.put (some (fp k)) v) w':=by
 have m:∀j,j<79->(j=0∨j%4≠0)->j≠k->(a.put (some (fp k)) v).eval (.tmp (fp j))=a.eval (.tmp (fp j)):=fun j n P Q=>bE _ _ _ _ (agd x q n P Q)
 have same:(a.put (some (fp k)) v).eval (.tmp (fp k))=v:=eP _ _ _ (by rw[h.sz];have:=(xI x q).2;omega);have e:∀j,j≠k->L' j=L j:=fun j z=>by rw[F j,aa z]
 have p:∀j,L j=true->L' j=true:=fun j z=>by rw[F j];split<;>simp[z]
 have I:aab pb w w':=fun a0 a1 _ R=>ag y R
 have J:∀i,i<19->L' (4*i+4)=true->L (4*i+3)=true∧L 0=true:=fun i d c=>by
  rw[e _ (xN q i)]at c;exact h.ord i d c
 have r:k≠0->(a.put (some (fp k)) v).eval (.tmp 3)=a.eval (.tmp 3):=fun S=>m 0 (by omega) (.inl rfl) (Ne.symm S)
 refine⟨(Act.size_put _ _ _).trans h.sz,(Act.defers_put' _ _ _).trans h.df,?_,I _ _ h.lb h.box,h.lb,h.lw,h.bel.trans (y.mono h.bel.size),fun i d c=>?_,fun i d c=>?_,fun i d c=>?_,fun c=>?_,fun c=>?_,fun c=>?_,fun i d c=>?_,?_,?_⟩
 ·exact(bE _ _ _ _ (by have:=(xI x q).1;omega)).trans h.e1
 ·rw[<-aaf d]
  by_cases b:4*i+1=k
  ·rw[b,same];exact K i d b.symm
  ·rw[m _ (by omega) (.inr (by omega)) b,aaf d];exact h.ld i d (by rw[<-e _ b];exact c)
 ·rw[<-zz d]
  by_cases b:4*i+2=k
  ·rw[b,same];exact M i d b.symm
  ·rw[m _ (by omega) (.inr (by omega)) b,zz d];exact h.mf i d (by rw[<-e _ b];exact c)
 ·rw[<-qO d]
  by_cases b:4*i+3=k
  ·rw[b,same];exact N i d b.symm
  ·rw[m _ (by omega) (.inr (by omega)) b,qO d];exact(h.cl i d (by rw[<-e _ b];exact c)).stay I
 ·by_cases b:k=0
  ·obtain⟨l,s,t,A,T⟩:=O b
   refine⟨l,0,_,?_,t,A,by omega,fun B u=>?_⟩
   ·subst b;exact same.trans s
   ·show u=atO _ _ B u
    unfold atO
    split
    ·rfl
    ·rename_i i C
     rw[aa];intro o;have:=(J i (fL C).1 o).2;rw[b]at g;rw[g]at this;cases this
  ·obtain⟨l,U,V,s,t,A,T,X⟩:=h.mp (by rw[<-e _ (Ne.symm b)];exact c)
   refine⟨l,U,V,(r b).trans s,t,tA A y,by omega,fun B u=>?_⟩;rw[X B u];unfold atO
   split
   ·rfl
   ·rename_i i C
    have d:=(fL C).1;rw[e (4*i+4) (xN q i)]
    by_cases o:L (4*i+4)=true
    ·rw[af o,af o]
     have Y:4*i+3≠k:=fun Z=>by
      have:=(h.ord i d o).1;rw[Z,g]at this;cases this
     rw[<-qO d,m _ (by omega) (.inr (by omega)) Y]
    ·rw[aa o,aa o]
 ·by_cases b:k=77
  ·have D:=G b
   rw[r (by omega),<-D.2];rw[b]at same ⊢;exact same
  ·rw[r (fun E=>by
    have n:=h.o77.1 (by rw[<-e _ (Ne.symm b)];exact c);rw[E]at g;rw[g]at n;cases n)]
   exact(m 77 (by omega) (.inr (by omega)) (Ne.symm b)).trans (h.e61 (by rw[<-e _ (Ne.symm b)];exact c))
 ·by_cases b:k=78
  ·have D:=H b
   rw[r (by omega),<-D.2];rw[b]at same ⊢;exact same
  ·rw[r (fun E=>by
    have n:=h.o77.2 (by rw[<-e _ (Ne.symm b)];exact c);rw[E]at g;rw[g]at n;cases n)]
   exact(m 78 (by omega) (.inr (by omega)) (Ne.symm b)).trans (h.e2 (by rw[<-e _ (Ne.symm b)];exact c))
 ·obtain⟨s,t⟩:=J i d c
  exact⟨p _ s,p _ t⟩
 ·intro c
  by_cases b:k=77
  ·exact p _ (G b).1
  ·exact p _ (h.o77.1 (by rw[<-e _ (Ne.symm b)];exact c))
 ·intro c
  by_cases b:k=78
  ·exact p _ (H b).1
  ·exact p _ (h.o77.2 (by rw[<-e _ (Ne.symm b)];exact c))
theorem CiO.ins(h:CiO df W pb bb (f+1) L a w){i:Nat}(q:i<19)(B:k=4*i+4)(r:∀j,L' j=if j=k then true else L j)(n:L 0=true)(C:L (4*i+3)=true):∃l e,a.eval (.tmp 3)=.map (some l)∧(Instr.mapUpdate 48 (.map (some l)) (.string ⟨(dh.getD i []).toArray⟩) (a.eval (.tmp (3*i+6)))).run prog w=.ok () e∧CiO df W pb bb f L' a e:=by
 obtain⟨l,D,E,s,t,o,Z,F⟩:=h.mp n;have u:dh[i]?=some (dh.getD i []):=by
  rw[List.getD,cG (show i<dh.length from q)];rfl
 have a0:(⟨(dh.getD i []).toArray⟩:ByteArray).size<=100:=by
  have:∀j,j<19->(dh.getD j []).length<=100:=by decide +kernel
  have:=this i q
  simpa [ByteArray.size]using this
 have a1:(⟨(dh.getD i []).toArray⟩:ByteArray).data.toList=dh.getD i []:=rfl;obtain⟨e,G,H,x⟩:=o.update (key:=.string ⟨(dh.getD i []).toArray⟩) (val:=a.eval (.tmp (3*i+6))) (kl:=.string (dh.getD i [])) (d:=.held (a.eval (.tmp (3*i+6)))) (ps:=[]) qE underlying48 (by unfold maxLen;omega) (WideMaps.keyOf_string_mk underlying9 (by unfold maxLen;omega)) rfl;have a2:=o;obtain⟨es,a3,I,-,-,J⟩:=o;have y:aab pb w e:=fun m K _ p=>by
  have M:=aga p I;have N:m<w.heap.size:=bY p;show e.cell? ⟨m,0,none⟩=some K;have O:=x.block m N (fun g=>M (bF g));rw[show e.cell? ⟨m,0,none⟩=w.cell? ⟨m,0,none⟩ by simp only[World.cell?,O]];exact p
 have b:∀j,j≠k->L' j=L j:=fun j d=>by rw[r j,aa d]
 have P:L' k=true:=by rw[r k,af rfl]
 refine⟨l,e,s,G,⟨h.sz,h.df,h.e1,y _ _ h.lb h.box,h.lb,h.lw,?_,fun j d c=>h.ld j d (by rw[<-b _ (by omega)];exact c),fun j d c=>h.mf j d (by rw[<-b _ (by omega)];exact c),fun j d c=>(h.cl j d (by rw[<-b _ (by omega)];exact c)).stay y,fun _=>⟨l,D+1,_,s,t,H,by omega,fun z Q=>?_⟩,fun c=>h.e61 (by rw[<-b _ (by omega)];exact c),fun c=>h.e2 (by rw[<-b _ (by omega)];exact c),fun j d c=>?_,fun c=>?_,fun c=>?_⟩⟩
 ·exact Below.grown h.bel x h.bel.size (fun a4 R=>by obtain rfl:=bF R;exact t)
 ·by_cases g:z=dh.getD i []
  ·subst g
   have S:Maps.IsMap E:=⟨_,J⟩;have T:WideAt.IsKeyLit (.string (dh.getD i [])):=True.intro;rw[Maps.atKey_put_same S T];unfold atO;rw[ox u];simp only;rw[<-B,P,af rfl]
  ·rw[Maps.atKey_put_other (fun A=>g (by injection A)),F z Q]
   unfold atO
   split
   ·rfl
   ·rename_i j U
    have d:=(fL U);have V:4*j+4≠k:=fun A=>by
     have:j=i:=by omega
     subst this;exact g (bF (d.2.symm.trans u))
    rw[b _ V]
 ·by_cases g:4*j+4=k
  ·have:j=i:=by omega
   subst this;exact⟨by rw[b _ (by omega)];exact C,by rw[b _ (by omega)];exact n⟩
  ·obtain⟨X,Y⟩:=h.ord j d (by rw[<-b _ g];exact c)
   exact⟨by rw[b _ (by omega)];exact X,by rw[b _ (by omega)];exact Y⟩
 ·rw[b _ (by omega)];exact n
 ·rw[b _ (by omega)];exact n
end
theorem adT{w w':World}{pb bb i x y a:Nat}{v:Value}{b:ByteArray}(h:DoesO w w' pb b (fj (fnO i) bb) v x y a)(c:1<=i∧i<=12)(d:b=ef i)(k:pb<w.heap.size):EntO w' pb bb i v:=by
 obtain⟨rfl,e,f,g,l,m,n⟩:=h;subst d;have j:(i==0)=false:=by simp;omega
 exact⟨_,by rw[j],.inr (.inl ⟨c.1,c.2,x,y,a,rfl,e,f,g,by omega,by omega,by omega⟩)⟩
theorem acu{w w':World}{pb bb i x y:Nat}{v:Value}{a:ByteArray}(h:TellO w w' pb a (fj (fnO i) bb) v x y)(b:13<=i)(c:a=ef i)(g:pb<w.heap.size):EntO w' pb bb i v:=by
 obtain⟨rfl,d,e,j,k⟩:=h;subst c;have f:(i==0)=false:=by simp;omega
 exact⟨_,by rw[f],.inr (.inr ⟨b,x,y,rfl,d,e,by omega,by omega⟩)⟩
section
variable {o:Oper} {a:Act} {w w':World} {K:Act→World→Prop} {Q:Exit→Act→World→Prop} {v:Value}
theorem iq(b:(execOp a.eval o).run prog w=.ok (.value v) w')(h:K (a.put o.dst v) w'):Oper.wp prog o a w K Q:=by
 unfold Oper.wp;rw[b];exact h
theorem ahg(b:(execOp a.eval o).run prog w=.ok .skip w')(h:K (a.put o.dst undef) w'):Oper.wp prog o a w K Q:=by
 unfold Oper.wp;rw[b];exact h
theorem ahk{t:TypeId}{k:Nat}{b:Addr}(ht:t=44)(c:o.op=.load t (.tmp k))(d:a.eval (.tmp k)=.pointer (some b))(e:w.cell? b=some v):(execOp a.eval o).run prog w=.ok (.value v) w:=by
 subst ht;have f:=aZ d;unfold execOp;rw[c]
 go_simp
theorem afR{b:Fn}{k:Nat}(c:o.op=.makeFunc b #[] #[.tmp k])(d:a.eval (.tmp k)=v):(execOp a.eval o).run prog w=.ok (.value (.func b #[] #[v])) w:=by
 have e:=aZ d;unfold execOp;rw[c]
 go_simp
theorem aeC{b:Fn}{k:Nat}(c:o.op=.makeFunc b #[.tmp k] #[])(d:a.eval (.tmp k)=v):(execOp a.eval o).run prog w=.ok (.value (.func b #[v] #[])) w:=by
 have e:=aZ d;unfold execOp;rw[c]
 go_simp
theorem aic(b:o.op=.makeMap 48 none):(execOp a.eval o).run prog w=.ok (.value (.map (some w.heap.size))) (w.alloc (.map #[] 0)):=by
 have c:=run_makeMap (P:=prog) 48 w;unfold execOp;rw[b]
 go_simp
theorem xp{k:Nat}(b:o.op=.move (.tmp k)∨o.op=.assign (.tmp k))(c:a.eval (.tmp k)=v):(execOp a.eval o).run prog w=.ok (.value v) w:=by
 have d:=aZ c;unfold execOp;rcases b with b|b<;>rw[b]<;>go_simp
theorem adX{f:ByteArray}{k:Nat}{b:Fn}{x y:Array Value}(c:o.op=.build 84 #[(0,.const (.string f)),(1,.const (.bool true)),(2,.tmp k)])(d:a.eval (.tmp k)=.func b x y):(execOp a.eval o).run prog w=.ok (.value (.agg #[.string f,.bool true,.func b x y])) w:=by
 have e:=aZ d;unfold execOp;rw[c]
 go_simp
theorem aci{b:Nat}{s:ByteArray}{k j:Nat}(c:o.op=.insert 48 (.tmp j) (.const (.string s)) (.tmp k))(d:a.eval (.tmp j)=.map (some b))(e:a.eval (.tmp k)=v)(f:(Instr.mapUpdate 48 (.map (some b)) (.string s) v).run prog w=.ok () w'):(execOp a.eval o).run prog w=.ok .skip w':=by
 have g:=aZ e;have h:=aZ d;unfold execOp;rw[c]
 go_simp
theorem x7{f:Nat}{s:ByteArray}{j k:Nat}{b:Value}{c:Array TypeId}(d:o.op=.call { callee:=.value (.func f),args:=#[.tmp j,.const (.string s),.tmp k],argTypes:=c })(e:a.eval (.tmp j)=b)(g:a.eval (.tmp k)=v)(h:∀args w,(callFunc f args).run prog w=.ok (.enter f args) w):(execOp a.eval o).run prog w=.ok (.enter f #[b,.string s,v]) w:=by
 have i:=aZ g;have l:=aZ e;unfold execOp;rw[d]
 go_simp
end
theorem wZ{o:Oper}{y:Nat->Option Bool}(h:o.guard=none):Region.wanted o y=true:=by
 unfold Region.wanted;rw[h]
theorem jN{Q:Exit->Act->World->Prop}{k:Nat}{K:Act->World->Prop}{a:Act}{w:World}(c:k<79)(d:(dT Tryz.f17 k).guard=none)(h:∀b:Act->World->Prop,(∀a w,K a w->b a w)->Oper.wp prog (dT Tryz.f17 k) a w b Q):wpOp prog (eK Tryz.f17) Q k K a w:=by
 refine wpOp_step (xo (by rw[lR];exact c)) (fun b e=>?_);rw[af (wZ d)];exact h b e
theorem ir{L:Nat->Bool}{k j:Nat}(b:k<79)(c:∀(o:Oper),(eK Tryz.f17)[k]?=some o->∀e,e∈o.after.toList->Region.binds .any e=true->L e.on=true)(h:((dT Tryz.f17 k).after.any fun e=>e.on==j&&Region.binds .any e)=true):L j=true:=by
 obtain⟨e,d,a⟩:=Array.any_eq_true'.1 h;simp only[Bool.and_eq_true,beq_iff_eq]at a;rw[<-a.1];exact c _ (xo (by rw[lR];exact b)) e (Array.mem_toList_iff.2 d) a.2
section
variable {Q:Exit→Act→World→Prop} {df:List Deferred} {W w:World} {pb bb f k:Nat} {L:Nat→Bool} {a:Act}
theorem ahf(h:CiO df W pb bb (f+1) L a w)(hf:f<=100)(hk:k<79)(hL:L k=false)(hd:∀(o:Oper),(eK Tryz.f17)[k]?=some o->∀e,e∈o.after.toList->Region.binds .any e=true->L e.on=true):wpOp prog (eK Tryz.f17) Q k (fun a' w'=>∀L',(∀j,L' j=if j=k then true else L j)->CiO df W pb bb f L' a' w') a w:=by
 by_cases k0:k=0
 ·subst k0
  obtain⟨p1,p2,p3⟩:(dT Tryz.f17 0).op=Op.makeMap 48 none∧(dT Tryz.f17 0).dst=some 3∧(dT Tryz.f17 0).guard=none:=⟨congrArg (·.1) uT,congrArg (·.2.1) uT,congrArg (·.2.2) uT⟩;refine jN hk p3 fun K' hK=>iq (aic p1) (hK _ _ fun L' hL'=>?_)
  rw[p2];have hb:Below w.heap.size w (w.alloc (.map #[] 0)):=aD;refine h.next hk (.inl rfl) hL hL' hb (fun i _ e=>by omega) (fun i _ e=>by omega) (fun i _ e=>by omega) (fun _=>⟨_,rfl,h.bel.size,World.ownsMap_made w prog 9 elO,hf⟩) (fun e=>by omega) (fun e=>by omega)
 by_cases k77:77<=k
 ·obtain⟨i,rfl⟩:∃i,k=i+77:=⟨k-77,by omega⟩
  have hi:i<2:=by omega
  obtain⟨p1,p2,p3⟩:=jB ahK hi
  by_cases i0:i=0
  ·subst i0
   have q0:L 0=true:=ir hk hd (by have:=nB;simp only[Bool.and_eq_true]at this;exact this.1.2);refine jN hk p3 fun K' hK=>iq (xp (.inl p1) rfl) (hK _ _ fun L' hL'=>?_)
   rw[p2];exact h.next hk (.inr (by omega)) hL hL' aF (fun i _ e=>by omega) (fun i _ e=>by omega) (fun i hi e=>by omega) (fun e=>by omega) (fun _=>⟨q0,rfl⟩) (fun e=>by omega)
  ·obtain rfl:i=1:=by omega
   have q77:L 77=true:=ir hk hd (by have:=nB;simp only[Bool.and_eq_true]at this;exact this.2);refine jN hk p3 fun K' hK=>iq (xp (.inr p1) rfl) (hK _ _ fun L' hL'=>?_)
   rw[p2];exact h.next hk (.inr (by omega)) hL hL' aF (fun i _ e=>by omega) (fun i _ e=>by omega) (fun i hi e=>by omega) (fun e=>by omega) (fun e=>by omega) (fun _=>⟨h.o77.1 q77,h.e61 q77⟩)
 obtain⟨i,r,hi,hr,rfl⟩:∃i r,i<19∧r<4∧k=4*i+1+r:=⟨(k-1) / 4,(k-1)%4,by omega,by omega,by omega⟩;have hw:=List.all_eq_true.1 aef i (List.mem_range.2 hi);simp only[Bool.and_eq_true]at hw;obtain⟨⟨⟨w1,w2⟩,w3⟩,w4⟩:=hw;have hr4:r=0∨r=1∨r=2∨r=3:=by omega
 rcases hr4 with rfl|rfl|rfl|rfl
 ·obtain⟨p1,p2,p3⟩:=jB af1 hi
  refine jN hk p3 fun K' hK=>iq (ahk rfl p1 h.e1 h.box) (hK _ _ fun L' hL'=>?_)
  rw[p2];have:=h.next hk (.inr (by omega)) hL hL' aF (v:=az pb) (fun i _ e=>rfl) (fun i _ e=>by omega) (fun i hi e=>by omega) (fun e=>by omega) (fun e=>by omega) (fun e=>by omega);rw[aaf hi]at this;exact this
 ·obtain⟨p1,p2,p3⟩:=jB afV hi
  by_cases i0:i=0
  ·subst i0
   have q1:L 1=true:=ir (k:=2) (by omega) hd (by have:=nB;simp only[Bool.and_eq_true]at this;exact this.1.1);refine jN hk p3 fun K' hK=>iq (aeC p1 (h.ld 0 (by omega) q1)) (hK _ _ fun L' hL'=>?_)
   rw[p2];exact h.next hk (.inr (by omega)) hL hL' aF (fun i _ e=>by omega) (fun i _ e=>by rw[af (by omega)]) (fun i hi e=>by omega) (fun e=>by omega) (fun e=>by omega) (fun e=>by omega)
  ·simp only[aa i0]at p1
   refine jN hk p3 fun K' hK=>iq (afR p1 h.e1) (hK _ _ fun L' hL'=>?_)
   rw[p2];have:=h.next hk (.inr (by omega)) hL hL' aF (v:=fj (fnO i) bb) (fun i _ e=>by omega) (fun j _ e=>by rw[aa (by omega),show j=i by omega]) (fun i hi e=>by omega) (fun e=>by omega) (fun e=>by omega) (fun e=>by omega);rw[zz hi]at this;exact this
 ·have q2:L (4*i+2)=true:=ir hk hd w1
  have hmf:=h.mf i hi q2
  by_cases i0:i=0
  ·subst i0
   obtain⟨p1,p2,p3⟩:(dT Tryz.f17 3).op=Op.build 84 #[(0,.const (.string (ef 0))),(1,.const (.bool true)),(2,.tmp 5)]∧(dT Tryz.f17 3).dst=some 6∧(dT Tryz.f17 3).guard=none:=⟨congrArg (·.1) pY,congrArg (·.2.1) pY,congrArg (·.2.2) pY⟩;refine jN hk p3 fun K' hK=>iq (adX p1 hmf) (hK _ _ fun L' hL'=>?_)
   rw[p2];exact h.next hk (.inr (by omega)) hL hL' aF (fun i _ e=>by omega) (fun i _ e=>by omega) (fun j _ e=>by rw[show j=0 by omega];exact⟨_,rfl,.inl ⟨rfl,rfl⟩⟩) (fun e=>by omega) (fun e=>by omega) (fun e=>by omega)
  ·rw[aa i0]at hmf
   have q1:L (4*i+1)=true:=ir hk hd (by
    rcases Bool.or_eq_true .. ▸ w2 with q|q
    ·exact absurd (eq_of_beq q) i0
    ·exact q)
   have hld:=h.ld i hi q1;have hwl:pb<w.heap.size:=bm h.lw h.bel.size
   by_cases i12:i<=12
   ·obtain⟨j,rfl⟩:∃j,i=j+1:=⟨i-1,by omega⟩
    obtain⟨p1,p2,p3⟩:=jB af5 (show j<12 by omega);refine jN hk p3 fun K' hK=>?_
    unfold Oper.wp;rw[x7 p1 hld hmf (enters_of func37 (by kernel_rfl) rfl)];refine(aea pb (ef (j+1)) (fnO (j+1)) bb w).mono ?_;rintro e w' ⟨v,x,y,z,rfl,hdo,hb⟩;refine hK _ _ fun L' hL'=>?_
    have:=h.next hk (.inr (by omega)) hL hL' hb (v:=v) (fun i _ e=>by omega) (fun i _ e=>by omega) (fun q _ e=>by rw[show q=j+1 by omega];exact adT hdo ⟨by omega,by omega⟩ rfl hwl) (fun e=>by omega) (fun e=>by omega) (fun e=>by omega);rw[qO hi]at this;show CiO _ _ _ _ _ _ (a.put (dT Tryz.f17 (4*(j+1)+3)).dst v) w';rw[p2];exact this
   ·obtain⟨j,rfl⟩:∃j,i=j+13:=⟨i-13,by omega⟩
    obtain⟨p1,p2,p3⟩:=jB aeB (show j<6 by omega);refine jN hk p3 fun K' hK=>?_
    unfold Oper.wp;rw[x7 p1 hld hmf (enters_of func62 (by kernel_rfl) rfl)];refine(sK pb (ef (j+13)) (fnO (j+13)) bb w).mono ?_;rintro e w' ⟨v,x,y,rfl,hdo,hb⟩;refine hK _ _ fun L' hL'=>?_
    have:=h.next hk (.inr (by omega)) hL hL' hb (v:=v) (fun i _ e=>by omega) (fun i _ e=>by omega) (fun q _ e=>by rw[show q=j+13 by omega];exact acu hdo (by omega) rfl hwl) (fun e=>by omega) (fun e=>by omega) (fun e=>by omega);rw[qO hi]at this;show CiO _ _ _ _ _ _ (a.put (dT Tryz.f17 (4*(j+13)+3)).dst v) w';rw[p2];exact this
 ·have q0:L 0=true:=ir hk hd w3
  have q3:L (4*i+3)=true:=ir hk hd w4;obtain⟨p1,p2,p3⟩:=jB aie hi;refine jN hk p3 fun K' hK=>?_
  obtain⟨mb,w5,e3,hrun,-⟩:=h.ins hi rfl (L':=fun j=>if j=4*i+4 then true else L j) (fun _=>rfl) q0 q3;refine ahg (aci p1 e3 rfl hrun) (hK _ _ fun L' hL'=>?_);obtain⟨mb',w6,e3',hrun',hN⟩:=h.ins hi rfl hL' q0 q3;rw[p2];have em:mb=mb':=by
   have:=e3.symm.trans e3';injection this with this
   exact bF this
  subst em;rw[hrun]at hrun';injection hrun' with _ ew
  subst ew;exact hN
end
end Go.Proofs.YtaehdgemkafinaaGreatDoor
