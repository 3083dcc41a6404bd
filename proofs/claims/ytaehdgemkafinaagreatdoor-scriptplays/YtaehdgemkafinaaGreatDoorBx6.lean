/-
  On the way to SPlaysProof: JF JG JH RC.
-/
import Derived.Test.YtaehdgemkafinaaGreatDoorBx2
import Derived.RegionTactic
import Derived.Laws.ResultCell
import Derived.BigRegion
import Derived.Deep.MidRow
set_option maxHeartbeats 8000000
set_option maxRecDepth 100000
namespace Go.Proofs.YtaehdgemkafinaaGreatDoor
open Go.RowKit
open Go.Proofs.Tryz
theorem cH{P:Program}{c:Func}{p e:Tmp}{ty:TypeId}(h:c.results=#[.cell p ty,.tmp e])(b:Array Value)(w:World)(g:Nat)(t:TypeId)(a:Array Value)(fr:Nat×Nat)(d:TypeDesc)(f:b.getD p undef=.pointer (some ⟨g,0,none⟩))(i:w.heap[g]?=some (.cells a t fr))(j:P.underlying ty=some d)(k:(match d with|.struct _|.array _ _=>true|_=>false)=true)(l:(P.info? ty).map (·.size)=some a.size):(results c b).run P w=.ok (.tuple #[.agg a,b.getD e undef]) w:=by
 rw[results_cell_tmp h,f];simp[asAddr,run_loadVar_row w g t ty a fr d i j k l]
theorem vJ{w:World}{g:Nat}{a b c d:Value}{t:TypeId}(h:w.heap[g]?=some (.cells #[a,b,c,d] t (0,0)))(e f i j:Value):((((w.setCell ⟨g,0,none⟩ e).setCell ⟨g,1,none⟩ f).setCell ⟨g,2,none⟩ i).setCell ⟨g,3,none⟩ j).heap[g]?=some (.cells #[e,f,i,j] t (0,0)):=by
 have k:=aE w g 0 _ _ e h;have l:=aE _ g 1 _ _ f k;have m:=aE _ g 2 _ _ i l;exact aE _ g 3 _ _ j m
theorem kc(w:World)(n:Nat):(w.drewN n).heap=w.heap:=by
 induction n with
 | zero=>rfl
 | succ n a=>first|exact a|(unfold World.drewN;exact a)|(simp[World.drewN];done)
def lv(w wx:World)(z e:Obj):Prop:=wx.heap[w.heap.size]?=some z∧wx.heap[w.heap.size+1]?=some e∧Below w.heap.size w wx
theorem rK(w:World)(a e:Obj)(m:Nat):lv w (((w.alloc a).drewN m).alloc e) a e:=by
 have b:((w.alloc a).drewN m).heap.size=w.heap.size+1:=by rw[kc];simp
 refine⟨?_,?_,?_⟩
 ·rw[Below.heap_alloc _ _ _ (by omega),kc];exact aB w a
 ·rw[<-b];exact aB _ _
 ·exact(aJ (aF.alloc aj a) m).alloc (by omega) e
theorem qo{w a:World}{b e:Obj}(h:lv w a b e)(m:Nat):lv w (a.drewN m) b e:=
 ⟨by rw[kc];exact h.1,by rw[kc];exact h.2.1,aJ h.2.2 m⟩
theorem nT{w j:World}{k:Obj}{a b c d:Value}{t:TypeId}(h:lv w j k (.cells #[a,b,c,d] t (0,0)))(e f g i:Value):lv w ((((j.setCell ⟨w.heap.size+1,0,none⟩ e).setCell ⟨w.heap.size+1,1,none⟩ f).setCell ⟨w.heap.size+1,2,none⟩ g).setCell ⟨w.heap.size+1,3,none⟩ i) k (.cells #[e,f,g,i] t (0,0)):=by
 refine⟨?_,vJ h.2.1 e f g i,(((h.2.2.setCell (aP _) _).setCell (aP _) _).setCell (aP _) _).setCell (aP _) _⟩;rw[dS _ _ _ _ (by simp),dS _ _ _ _ (by simp),dS _ _ _ _ (by simp),dS _ _ _ _ (by simp)];exact h.1
theorem agZ(w:World)(e:Obj)(a b c d:Value)(t:TypeId)(m m':Nat)(f g h i:Value):lv w (((((((w.alloc e).drewN m).alloc (.cells #[a,b,c,d] t (0,0))).drewN m').setCell ⟨w.heap.size+1,0,none⟩ f).setCell ⟨w.heap.size+1,1,none⟩ g).setCell ⟨w.heap.size+1,2,none⟩ h |>.setCell ⟨w.heap.size+1,3,none⟩ i) e (.cells #[f,g,h,i] t (0,0)):=
 nT (qo (rK w e _ m) m') f g h i
theorem agv(w:World)(e:Obj)(a b c d:Value)(t:TypeId)(m':Nat)(f g h i:Value):lv w ((((((w.alloc e).alloc (.cells #[a,b,c,d] t (0,0))).drewN m').setCell ⟨w.heap.size+1,0,none⟩ f).setCell ⟨w.heap.size+1,1,none⟩ g).setCell ⟨w.heap.size+1,2,none⟩ h |>.setCell ⟨w.heap.size+1,3,none⟩ i) e (.cells #[f,g,h,i] t (0,0)):=
 nT (qo (rK w e _ 0) m') f g h i
theorem oK:(prog.info? 164).map (·.size)=some 4:=by kernel_rfl
def mz(n:Nat)(s:St):Array Value:=#[.int .i64 s.ph,.int .i64 s.pr,.int .i64 s.at_,.int .u32 n]
theorem kS(l:List UInt8):eg (l.take 4)<4294967296:=mC l
theorem zK(t:List UInt8):(eG t).fits:=by
 have a:=rr ((t.drop 4).take 1);have b:256^((t.drop 4).take 1).length<=256^1:=Nat.pow_le_pow_right (by decide) (by simp;omega);refine⟨by show eg _<_;omega,kS _,kS _⟩
theorem xA(n ph p a:Nat)(w:World)(b:n<4294967296)(h1:ph<256)(c:p<4294967296)(d:a<4294967296):Calls prog 245 #[.agg #[.int .i64 (ph:Int),.int .i64 (p:Int),.int .i64 (a:Int),.int .u32 (n:Int)]] w fun e w'=>e=.returned (.string (bA (aY n ⟨ph,p,a⟩++[165])))∧Below w.heap.size w w':=
 afi n ⟨ph,p,a⟩ w b ⟨h1,c,d⟩
theorem aeG(t:ByteArray)(k:Nat)(w:World)(ht:t.size=18):Calls prog 225 #[.string t,.int .u32 k] w fun e w'=>e=.returned (.tuple #[ve (cT t.data.toList) (eG t.data.toList),.bool (decide (1<=cT t.data.toList∧cT t.data.toList%2=k∧aY (cT t.data.toList) (eG t.data.toList)++[165]=t.data.toList))])∧Below w.heap.size w w':=by
 have M:=eV t 4 4 (by omega) rfl;have N:=og t 5 5 rfl (by omega);have O:=og t 9 9 rfl (by omega);have B:(t[4]'(by omega)).toNat<256:=UInt8.toNat_lt (t[4]'(by omega));obtain⟨a,y⟩:=nmd (eg (t.data.toList.take 4));obtain⟨c,o⟩:=nmd (eg ((t.extract 5 t.size).data.toList.take 4));obtain⟨d,p⟩:=nmd (eg ((t.extract 9 t.size).data.toList.take 4));have P:a<4294967296:=by rw[<-y.out];exact kS _
 have Q:c<4294967296:=by rw[<-o.out];exact kS _
 have R:d<4294967296:=by rw[<-p.out];exact kS _
 have C:Hid (4<=(t.extract 5 t.size).size):=by unfold Hid;rw[bj,dE];simp;omega
 have D:Hid (4<=(t.extract 9 t.size).size):=by unfold Hid;rw[bj,dE];simp;omega
 have S:Hid (4<=t.size):=by unfold Hid;omega
 have E:Hid (eG t.data.toList=⟨(t[4]'(by omega)).toNat,c,d⟩):=by
  unfold Hid eG;have T:(t.extract 5 t.size).data.toList=t.data.toList.drop 5:=by rw[dE];apply List.take_of_length_le;simp
  have U:(t.extract 9 t.size).data.toList=t.data.toList.drop 9:=by rw[dE];apply List.take_of_length_le;simp
  rw[<-o.out,<-p.out,T,U]
  congr 1
  rw[jC,List.drop_eq_getElem_cons (by rw[bj]at ht;omega)];simp[eg]
 have V:Hid (cT t.data.toList=a):=y;generalize t.extract 5 t.size=W at N o C;generalize t.extract 9 t.size=X at O p D;generalize (t[4]'(by omega)).toNat=g at M B E;rw[V.out,E.out];unfold ve;obtain⟨i,q⟩:∃i:Bool,Hid (i=decide (1<=a∧a%2=k∧aY a ⟨g,c,d⟩++[165]=t.data.toList)):=⟨_,hid (Eq.refl _)⟩;rw[<-q.out];have a1:IntKind.i64.wrap (g:Int)=g:=by rw[IntKind.wrap_i64];omega
 have a2:IntKind.i64.wrap (c:Int)=c:=by rw[IntKind.wrap_i64];omega
 have a3:IntKind.i64.wrap (d:Int)=d:=by rw[IntKind.wrap_i64];omega
 go_enter func225,ntmps225
 go_wp2_with fail
 go_cut [6]from 7 (fun Y r=>Y=.pointer (some ⟨w.heap.size+1,0,none⟩)∧lv w r (.cells #[iV 0,iV 0,iV 0,.int .u32 0] 164 (0,0)) (.cells #[iV (g:Int),iV (c:Int),iV (d:Int),.int .u32 (a:Int)] 164 (0,0)))
 case first =>
  go_region_held3 (fun _=>True) (trivial) (first|(go_at_call 248;(with_reducible refine(rV W c _ C.out o.out).mono ?_);rintro e r ⟨rfl,F,rfl⟩)|(go_at_call 248;(with_reducible refine(rV X d _ D.out p.out).mono ?_);rintro e r ⟨rfl,F,rfl⟩)|(go_at_call 248;(with_reducible refine(rV t a _ S.out y.out).mono ?_);rintro e r ⟨rfl,F,rfl⟩))
  all_goals go_step
  all_goals go_step
  all_goals go_meet
  all_goals refine⟨rfl,?_⟩
  all_goals first|(with_reducible exact rK _ _ _ _)|(with_reducible exact agZ _ _ _ _ _ _ _ _ _ _ _ _ _)|(with_reducible exact agv _ _ _ _ _ _ _ _ _ _ _ _)
 case rest =>
  obtain⟨rfl,G,H,I⟩:=hcut;have z:=hid I;have f:=hid G;have j:=hid H;clear I G H;have s:w.heap.size+1<wc.heap.size:=ah j.out;have h:w.heap.size<wc.heap.size:=by omega
  have Z:wc.cell? ⟨w.heap.size+1,0,none⟩=some (iV g):=by rw[ai j.out];rfl
  have E1:wc.cell? ⟨w.heap.size+1,1,none⟩=some (iV c):=by rw[ai j.out];rfl
  have E2:wc.cell? ⟨w.heap.size+1,2,none⟩=some (iV d):=by rw[ai j.out];rfl
  have E3:wc.cell? ⟨w.heap.size+1,3,none⟩=some (.int .u32 a):=by rw[ai j.out];rfl
  have D0:wc.cell? ⟨w.heap.size,0,none⟩=some (iV 0):=by rw[ai f.out];rfl
  have D1:wc.cell? ⟨w.heap.size,1,none⟩=some (iV 0):=by rw[ai f.out];rfl
  have D2:wc.cell? ⟨w.heap.size,2,none⟩=some (iV 0):=by rw[ai f.out];rfl
  have D3:wc.cell? ⟨w.heap.size,3,none⟩=some (.int .u32 0):=by rw[ai f.out];rfl
  have F0:=aK wc w.heap.size 0 _ _ f.out;have F1:=aK wc w.heap.size 1 _ _ f.out;have F2:=aK wc w.heap.size 2 _ _ f.out;have F3:=aK wc w.heap.size 3 _ _ f.out
  by_cases J:0<a
  ·have u:(a:Int).tmod 2=((a%2:Nat):Int):=by rw[Int.tmod_eq_emod_of_nonneg (by omega)];omega
   rcases v:((a:Int).tmod 2==(k:Int))with _|_
   ·have l:¬a%2=k:=by rw[u]at v;simp at v;omega
    have g5:(a%2==k)=false:=by simpa using l
    have g6:decide (a%2=k)=false:=by simpa using l
    have g7:((a:Int)%2==(k:Int))=false:=by simp;omega
    have g8:decide ((a:Int)%2=(k:Int))=false:=by simp;omega
    clear u;have m:Hid (i=false):=by rw[q.out];exact aS (fun n=>l n.2.1)
    go_wp2_with fail
    go_big_region
    go_wp2
    refine bh (cH rfl _ _ w.heap.size 164 _ (0,0) _ rfl (vJ f.out _ _ _ _) underlying164 rfl oK) rfl ?_;exact⟨by rw[m.out];rfl,((((z.setCell aj _).setCell aj _).setCell aj _).setCell aj _).drew⟩
   ·have l:a%2=k:=by rw[u]at v;simp at v;omega
    have g7:((a:Int)%2==(k:Int))=true:=by simp;omega
    obtain⟨A,K⟩:∃A:Bool,Hid (((bA (aY a ⟨g,c,d⟩++[165])).toList==t.toList)=A):=⟨_,hid (Eq.refl _)⟩;have m:Hid (i=A):=by
     unfold Hid;rw[q.out,<-K.out,ByteArray.toList_eq,ByteArray.toList_eq,ep]
     by_cases x:aY a ⟨g,c,d⟩++[165]=t.data.toList
     ·rw[bo ⟨J,l,x⟩,x];simp
     ·rw[aS (fun n=>x n.2.2)];exact(beq_eq_false_iff_ne.2 x).symm
    have a4:=K.out;clear u
    go_wp2_with fail
    go_region_held3 (fun w'=>w'.cell? ⟨w.heap.size+1,0,none⟩=some (iV g)∧w'.cell? ⟨w.heap.size+1,1,none⟩=some (iV c)∧w'.cell? ⟨w.heap.size+1,2,none⟩=some (iV d)∧w'.cell? ⟨w.heap.size+1,3,none⟩=some (.int .u32 a)) (go_keep) (first|(go_at_call 245;(with_reducible refine(xA a g c d _ P B Q R).mono ?_);rintro e w2 ⟨rfl,b⟩;have y0:=(b.cell (p:=⟨w.heap.size+1,0,none⟩) s).trans Z;have y1:=(b.cell (p:=⟨w.heap.size+1,1,none⟩) s).trans E1;have y2:=(b.cell (p:=⟨w.heap.size+1,2,none⟩) s).trans E2;have y3:=(b.cell (p:=⟨w.heap.size+1,3,none⟩) s).trans E3;have z0:=(b.cell (p:=⟨w.heap.size,0,none⟩) h).trans D0;have z1:=(b.cell (p:=⟨w.heap.size,1,none⟩) h).trans D1;have z2:=(b.cell (p:=⟨w.heap.size,2,none⟩) h).trans D2;have z3:=(b.cell (p:=⟨w.heap.size,3,none⟩) h).trans D3;have f0:=(b.frozen (p:=⟨w.heap.size,0,none⟩) h).trans F0;have f1:=(b.frozen (p:=⟨w.heap.size,1,none⟩) h).trans F1;have f2:=(b.frozen (p:=⟨w.heap.size,2,none⟩) h).trans F2;have f3:=(b.frozen (p:=⟨w.heap.size,3,none⟩) h).trans F3;have L:=hid b;clear b))
    have R2:=hid ((L.block w.heap.size h).trans f.out);have a0:=hid (z.drew.trans ((L.out).mono (show w.heap.size<=wc.heap.size by omega)))
    go_wp2
    refine bh (cH rfl _ _ w.heap.size 164 _ (0,0) _ rfl (vJ R2.out _ _ _ _) underlying164 rfl oK) rfl ?_;exact⟨by rw[m.out];rfl,((((a0.setCell aj _).setCell aj _).setCell aj _).setCell aj _)⟩
  ·have m:Hid (i=false):=by rw[q.out];exact aS (fun n=>J n.1)
   go_wp2_with fail
   go_big_region
   go_wp2
   refine bh (cH rfl _ _ w.heap.size 164 _ (0,0) _ rfl (vJ f.out _ _ _ _) underlying164 rfl oK) rfl ?_;exact⟨by rw[m.out];rfl,((((z.setCell aj _).setCell aj _).setCell aj _).setCell aj _).drew⟩
def bst(L:List UInt8)(d:Nat):Nat->Nat×St
 | 0=>(0,St.zero)
 | 1=>cy (2*d) (aN L (2*d))
 | _=>au L d
theorem afj(L:List UInt8)(d k:Nat)(f:k<2):bst L d (k+1)=if(1<=cT (aN L (2*d+k))∧cT (aN L (2*d+k))%2=k∧aY (cT (aN L (2*d+k))) (eG (aN L (2*d+k)))++[165]=aN L (2*d+k))∧(bst L d k).1<cT (aN L (2*d+k))then(cT (aN L (2*d+k)),eG (aN L (2*d+k)))else bst L d k:=by
 have e:cy (2*d+k) (aN L (2*d+k))=if(1<=cT (aN L (2*d+k))∧cT (aN L (2*d+k))%2=k∧aY (cT (aN L (2*d+k))) (eG (aN L (2*d+k)))++[165]=aN L (2*d+k))then(cT (aN L (2*d+k)),eG (aN L (2*d+k)))else(0,St.zero):=by
  unfold cy;rw[show(2*d+k)%2=k by omega]
 obtain rfl|rfl:k=0∨k=1:=by omega
 ·show cy (2*d+0) (aN L (2*d+0))=_
  rw[e]
  by_cases a:(1<=cT (aN L (2*d+0))∧cT (aN L (2*d+0))%2=0∧aY (cT (aN L (2*d+0))) (eG (aN L (2*d+0)))++[165]=aN L (2*d+0))
  ·rw[af a,af ⟨a,a.1⟩]
  ·rw[aa a,aa (fun b=>a b.1)];rfl
 ·show au L d=_
  unfold au;rw[e]
  by_cases a:(1<=cT (aN L (2*d+1))∧cT (aN L (2*d+1))%2=1∧aY (cT (aN L (2*d+1))) (eG (aN L (2*d+1)))++[165]=aN L (2*d+1))
  ·rw[af a]
   by_cases c:(cy (2*d) (aN L (2*d))).1<cT (aN L (2*d+1))
   ·rw[af c,af ⟨a,c⟩]
   ·rw[aa c,aa (fun b=>c b.2)];rfl
  ·rw[aa a,aa (Nat.not_lt_zero _)]
   exact(aa (fun b=>a b.1)).symm
theorem ahA(L:List UInt8)(d:Nat):∀k,(bst L d k).1<4294967296
 | 0=>(by decide:(0:Nat)<4294967296)
 | 1=>pT _ _
 | _+2=>by
  show(au L d).1<_;unfold au
  split
  ·exact pT _ _
  ·exact pT _ _
theorem ae9(B:ByteArray)(k:Nat):(B.extract (18*k) (18*k+18)).data.toList=aN B.data.toList k:=by
 rw[dE];unfold aN;rw[Nat.add_sub_cancel_left]
theorem ahw(t:ByteArray)(l:List UInt8)(k n:Nat)(s:St)(b:Bool)(w:World)(a:t.data.toList=l)(d:l.length=18)(f:cT l=n)(g:eG l=s)(h:decide (1<=n∧n%2=k∧aY n s++[165]=l)=b):Calls prog 225 #[.string t,.int .u32 (k:Int)] w fun e w'=>e=.returned (.tuple #[.agg #[.int .i64 (s.ph:Int),.int .i64 (s.pr:Int),.int .i64 (s.at_:Int),.int .u32 (n:Int)],.bool b])∧Below w.heap.size w w':=by
 have c:=aeG t k w (by rw[bj,a];exact d);rw[a,f,g,h]at c;exact c
theorem oW{w:World}{x:Addr}{v:Value}{o:Obj}(h:w.cell? x=some v):(w.alloc o).cell? x=some v:=by
 rw[World.cell?_alloc_lt _ _ _ (World.block_lt_of_cell? w x h)];exact h
theorem uO(d n r:Nat)(w:World)(a:d<=100)(b:n<4294967296)(c:18*(2*d+n%2)=r):Calls prog 198 #[.int .i64 (d:Int),.int .u32 (n:Int)] w fun e w'=>e=.returned (.int .i64 (r:Int))∧w'=w:=by
 rw[<-c];exact sX d n w a b
theorem yB(B:ByteArray)(d:Nat)(w:World)(Z:B.size=216)(A:d<6):Calls prog 199 #[.string B,.int .i64 (d:Int)] w fun e w'=>e=.returned (ve (au B.data.toList d).1 (au B.data.toList d).2)∧Below w.heap.size w w':=by
 have HZ:Hid (∀a,a<2->(aN B.data.toList (2*d+a)).length=18):=fun a J=>eR (by rw[bj]at Z;omega)
 have HS:Hid (∀a,a<2->bst B.data.toList d (a+1)=_):=fun a J=>afj B.data.toList d a J
 have HL:Hid (∀a,(bst B.data.toList d a).1<4294967296):=ahA _ _;have HE:Hid (∀a,(B.extract (18*a) (18*a+18)).data.toList=aN B.data.toList a):=ae9 B;have HF:Hid (bst B.data.toList d 2=au B.data.toList d):=rfl;rw[<-HF.out];have HI:Hid (bst B.data.toList d 0=(0,St.zero)):=rfl
 go_enter func199,ntmps199
 go_wp2
 go_loopw [10] (fun K wr=>∃a:Nat,a<=2∧K=.int .u32 (a:Int)∧wr.heap[w.heap.size]?=some (.cells (mz 0 St.zero) 164 (0,0))∧wr.heap[w.heap.size+1]?=some (.cells (mz (bst B.data.toList d a).1 (bst B.data.toList d a).2) 164 (0,0))∧bW w wr) (fun K _=>2-(intOf K).toNat)
 case atStart=>exact⟨0,by omega,rfl,heap_alloc2_old _ _ _,by rw[HI.out];exact heap_alloc2_new _ _ _,(aD).alloc (by simp) _⟩
 case round =>
  obtain⟨a,J,rfl,C,p,D⟩:=hrel;have a0:=ah p
  by_cases Q:a<2
  ·have R:=hid (HZ.out a Q)
   obtain⟨i,a1⟩:=nmd (aN B.data.toList (2*d+a));obtain⟨f,S⟩:=nmd (18*(2*d+a%2));have T:18*(2*d+a)=f:=by rw[<-S.out];omega
   have a6:f+18<=216:=by omega
   have n:=hid (HE.out (2*d+a));have s:=HS.out a Q;rw[a1.out]at R n s;rw[T]at n;have hm:=HL.out a;obtain⟨⟨q,t⟩,HM⟩:∃u,Hid (bst B.data.toList d a=u):=⟨_,rfl⟩;rw[HM.out]at hm s p;obtain⟨b,L⟩:=nmd (cT i);obtain⟨⟨j,k,l⟩,U⟩:∃b,Hid (eG i=b):=⟨_,rfl⟩;have hn:b<4294967296:=by rw[<-L.out];exact mC i
   rw[L.out,U.out]at s;obtain⟨E,M⟩:∃E:Bool,Hid (decide (1<=b∧b%2=a∧aY b ⟨j,k,l⟩++[165]=i)=E):=⟨_,hid (Eq.refl _)⟩;have v:=hid s;have a2:=sj B f (f+18) (f:Int) ((f:Int)+18) rfl (by omega) (by omega) (by omega);obtain⟨tt,a3⟩:=nmd (B.extract f (f+18));rw[a3.out]at a2 n;have g:=hid C;have r:=hid p;have F:=hid D;clear C p D s T
   go_wp2_with (go_at_call 198;(with_reducible refine(uO d a f _ (by omega) (by omega) S.out).mono ?_);rintro e wx ⟨rfl,n⟩;subst wx)
   refine(ahw tt i a b ⟨j,k,l⟩ E _ n.out R.out L.out U.out M.out).mono ?_;rintro e m ⟨rfl,G⟩;have V:=hid ((G.block _ a0).trans r.out);have a5:=hid ((G.block w.heap.size (by omega)).trans g.out);have W:=ah V.out;have X:=hid (F.trans (G.mono F.size));clear G;obtain⟨c,x⟩:=nmd (m.alloc (.cells #[iV (j:Int),iV (k:Int),iV (l:Int),.int .u32 (b:Int)] 164));have h:Hid (c.heap[w.heap.size+1]?=some (.cells (mz q t) 164 (0,0))):=by rw[<-x.out];exact(Below.heap_alloc m _ _ W).trans V.out
   have N:Hid (c.heap[w.heap.size]?=some (.cells (mz 0 St.zero) 164 (0,0))):=by rw[<-x.out];exact(Below.heap_alloc m _ _ (by omega)).trans a5.out
   have H:Hid (c.heap[m.heap.size]?=some (.cells #[iV (j:Int),iV (k:Int),iV (l:Int),.int .u32 (b:Int)] 164 (0,0))):=by rw[<-x.out];exact aB m _
   have O:Hid (bW w c):=by rw[<-x.out];exact X.alloc X.size _
   have hW:=x.out;have c0:c.cell? ⟨w.heap.size+1,0,none⟩=some (iV (t.ph:Int)):=by rw[ai h.out];rfl
   have c1:c.cell? ⟨w.heap.size+1,1,none⟩=some (iV (t.pr:Int)):=by rw[ai h.out];rfl
   have c2:c.cell? ⟨w.heap.size+1,2,none⟩=some (iV (t.at_:Int)):=by rw[ai h.out];rfl
   have c3:c.cell? ⟨w.heap.size+1,3,none⟩=some (.int .u32 (q:Int)):=by rw[ai h.out];rfl
   have f0:=aK c _ 0 _ _ h.out;have f1:=aK c _ 1 _ _ h.out;have f2:=aK c _ 2 _ _ h.out;have f3:=aK c _ 3 _ _ h.out;have e0:c.cell? ⟨m.heap.size,0,none⟩=some (iV (j:Int)):=by rw[ai H.out];rfl
   have e1:c.cell? ⟨m.heap.size,1,none⟩=some (iV (k:Int)):=by rw[ai H.out];rfl
   have e2:c.cell? ⟨m.heap.size,2,none⟩=some (iV (l:Int)):=by rw[ai H.out];rfl
   have e3:c.cell? ⟨m.heap.size,3,none⟩=some (.int .u32 (b:Int)):=by rw[ai H.out];rfl
   have I:∀u,(1<=b∧b%2=a∧aY b ⟨j,k,l⟩++[165]=i)∧q<b->u=(b,(⟨j,k,l⟩:St))->Hid (bst B.data.toList d (a+1)=u):=fun u o n=>by unfold Hid;rw[v.out,af o,n]
   have y:¬((1<=b∧b%2=a∧aY b ⟨j,k,l⟩++[165]=i)∧q<b)->Hid (bst B.data.toList d (a+1)=(q,t)):=fun o=>by unfold Hid;rw[v.out,aa o]
   cases E with
   | false =>
    have z:=y (fun o=>of_decide_eq_false M.out o.1);clear I y v
    go_wp2_with fail
    go_roundw
    case rel=>exact⟨a+1,by omega,by go_num,N.out,by rw[z.out];exact h.out,O.out⟩
    case measure=>simp[intOf];omega
   | true =>
    have A:=cK M.out
    by_cases Y:q<b
    ·have z:=I _ ⟨A,Y⟩ rfl
     clear I y v A;have a7:=hid W;have P:=hid (nT (w:=w) ⟨N.out,h.out,O.out⟩ (iV (j:Int)) (iV (k:Int)) (iV (l:Int)) (.int .u32 (b:Int)))
     go_wp2_with fail
     go_roundw
     case rel=>exact⟨a+1,by omega,by go_num,P.out.1,by rw[z.out];exact P.out.2.1,P.out.2.2⟩
     case measure=>simp[intOf];omega
    ·have z:=y (fun o=>Y o.2)
     clear I y v A
     go_wp2_with fail
     go_roundw
     case rel=>exact⟨a+1,by omega,by go_num,N.out,by rw[z.out];exact h.out,O.out⟩
     case measure=>simp[intOf];omega
  ·obtain rfl:a=2:=by omega
   have g:=hid C;have r:=hid p;have F:=hid D;have c0:wr.cell? ⟨w.heap.size+1,0,none⟩=some (iV ((bst B.data.toList d 2).2.ph:Int)):=by rw[ai r.out];rfl
   have c1:wr.cell? ⟨w.heap.size+1,1,none⟩=some (iV ((bst B.data.toList d 2).2.pr:Int)):=by rw[ai r.out];rfl
   have c2:wr.cell? ⟨w.heap.size+1,2,none⟩=some (iV ((bst B.data.toList d 2).2.at_:Int)):=by rw[ai r.out];rfl
   have c3:wr.cell? ⟨w.heap.size+1,3,none⟩=some (.int .u32 ((bst B.data.toList d 2).1:Int)):=by rw[ai r.out];rfl
   have g0:wr.cell? ⟨w.heap.size,0,none⟩=some (iV 0):=by rw[ai g.out];rfl
   have g1:wr.cell? ⟨w.heap.size,1,none⟩=some (iV 0):=by rw[ai g.out];rfl
   have g2:wr.cell? ⟨w.heap.size,2,none⟩=some (iV 0):=by rw[ai g.out];rfl
   have g3:wr.cell? ⟨w.heap.size,3,none⟩=some (.int .u32 0):=by rw[ai g.out];rfl
   have f0:=aK wr _ 0 _ _ g.out;have f1:=aK wr _ 1 _ _ g.out;have f2:=aK wr _ 2 _ _ g.out;have f3:=aK wr _ 3 _ _ g.out;clear C p D
   go_wp2_with fail
   refine bh (results_cell_row rfl _ _ w.heap.size 164 _ (0,0) _ rfl (vJ g.out _ _ _ _) underlying164 rfl oK) rfl ?_;exact⟨rfl,(((F.setCell aj _).setCell aj _).setCell aj _).setCell aj _⟩
def r9(x:Nat×St):List Value:=[.int .i64 x.2.ph,.int .i64 x.2.pr,.int .i64 x.2.at_,.int .u32 x.1]
def jL(p:Nat)(E:Nat->Nat×St)(over:Bool):List Value:=.pointer (some ⟨p,0,none⟩)::(r9 (E 0)++(r9 (E 1)++(r9 (E 2)++(r9 (E 3)++(r9 (E 4)++(r9 (E 5)++[.bool over]))))))
def JR(w:World)(j p:Nat)(E:Nat->Nat×St)(over:Bool):Prop:=w.heap[j]?=some (.cells (jL p E over).toArray 167 (0,0))
def iM(E:Nat->Nat×St)(d:Nat)(x:Nat×St):Nat->Nat×St:=fun e=>if e=d then x else E e
theorem JR.cell{w:World}{j p:Nat}{E:Nat->Nat×St}{over:Bool}(h:JR w j p E over)(i:Nat):w.cell? ⟨j,i,none⟩=(jL p E over)[i]?:=by
 rw[aG w j i _ _ _ h,List.getElem?_toArray]
theorem JR.plate{w:World}{j p:Nat}{E:Nat->Nat×St}{over:Bool}(h:JR w j p E over):w.cell? ⟨j,0,none⟩=some (.pointer (some ⟨p,0,none⟩)):=h.cell 0
theorem JR.over{w:World}{j p:Nat}{E:Nat->Nat×St}{over:Bool}(h:JR w j p E over):w.cell? ⟨j,25,none⟩=some (.bool over):=h.cell 25
theorem JR.fz{w:World}{j p:Nat}{E:Nat->Nat×St}{over:Bool}(h:JR w j p E over)(i:Nat):w.frozen? ⟨j,i,none⟩=false:=aK w j i _ _ h
theorem six{d:Nat}(a:d<6):d=0∨d=1∨d=2∨d=3∨d=4∨d=5:=by omega
theorem JR.ent{w:World}{j p d:Nat}{E:Nat->Nat×St}{over:Bool}(h:JR w j p E over)(a:d<6):w.cell? ⟨j,1+d*4,none⟩=some (.int .i64 (E d).2.ph)∧w.cell? ⟨j,1+d*4+1,none⟩=some (.int .i64 (E d).2.pr)∧w.cell? ⟨j,1+d*4+2,none⟩=some (.int .i64 (E d).2.at_)∧w.cell? ⟨j,1+d*4+3,none⟩=some (.int .u32 (E d).1):=by
 rw[h.cell,h.cell,h.cell,h.cell];rcases six a with rfl|rfl|rfl|rfl|rfl|rfl<;>exact⟨rfl,rfl,rfl,rfl⟩
theorem JR.set{w:World}{j p d:Nat}{E:Nat->Nat×St}{over:Bool}(h:JR w j p E over)(a:d<6)(x:Nat×St):JR ((((w.setCell ⟨j,1+d*4,none⟩ (.int .i64 x.2.ph)).setCell ⟨j,1+d*4+1,none⟩ (.int .i64 x.2.pr)).setCell ⟨j,1+d*4+2,none⟩ (.int .i64 x.2.at_)).setCell ⟨j,1+d*4+3,none⟩ (.int .u32 x.1)) j p (iM E d x) over:=by
 have b:=aE w j (1+d*4) _ _ (iV x.2.ph) h;have c:=aE _ j (1+d*4+1) _ _ (iV x.2.pr) b;have e:=aE _ j (1+d*4+2) _ _ (iV x.2.at_) c;have f:=aE _ j (1+d*4+3) _ _ (.int .u32 x.1) e;unfold JR;rw[f];rcases six a with rfl|rfl|rfl|rfl|rfl|rfl<;>rfl
theorem JR.setOver{w:World}{j p:Nat}{E:Nat->Nat×St}{over:Bool}(h:JR w j p E over)(b:Bool):JR (w.setCell ⟨j,25,none⟩ (.bool b)) j p E b:=by
 unfold JR;rw[aE w j 25 _ _ _ h];rfl
theorem JR.ext{w:World}{j p:Nat}{E F:Nat->Nat×St}{over:Bool}(h:JR w j p E over)(a:∀d,d<6->E d=F d):JR w j p F over:=by
 unfold JR jL at h ⊢;rw[<-a 0 (by decide),<-a 1 (by decide),<-a 2 (by decide),<-a 3 (by decide),<-a 4 (by decide),<-a 5 (by decide)];exact h
theorem JR.drew{w:World}{j p:Nat}{E:Nat->Nat×St}{over:Bool}(h:JR w j p E over):JR w.drew j p E over:=h
theorem JR.later{w w':World}{j p B:Nat}{E:Nat->Nat×St}{over:Bool}(h:JR w j p E over)(a:Below B w w')(b:j<B):JR w' j p E over:=(a.block j b).trans h
theorem JR.lt{w:World}{j p:Nat}{E:Nat->Nat×St}{over:Bool}(h:JR w j p E over):j<w.heap.size:=ah h
def gB:Nat->Nat
 | 0=>0
 | 1=>4
 | 2=>5
 | 3=>9
 | _=>13
theorem aek(i:Nat):gB i<=gB (i+1)∧gB (i+1)<=13:=by
 match i with
 | 0=>decide
 | 1=>decide
 | 2=>decide
 | 3=>decide
 | _+4=>exact⟨aj,aj⟩
def jZ(t:List UInt8)(i:Nat):Nat:=eg ((t.drop (gB i)).take (gB (i+1)-gB i))
theorem uX{i:Nat}(h:i<4):i=0∨i=1∨i=2∨i=3:=by omega
theorem adW{w:World}{b:Nat}(h:w.heap[b]?=some (.cells #[.int .i64 4,.int .i64 5,.int .i64 9,.int .i64 13] 3 (0,0))){i:Nat}(a:i<4):w.cell? ⟨b,i,none⟩=some (.int .i64 (gB (i+1):Nat)):=by
 rw[ai h];rcases uX a with rfl|rfl|rfl|rfl<;>rfl
theorem adn(t:List UInt8)(o a:Nat)(h:o+a<t.length):eg ((t.drop o).take (a+1))=256*eg ((t.drop o).take a)+(t[o+a]'h).toNat:=by
 rw[List.take_add_one,List.getElem?_drop,cG h];exact ng _ _
theorem aif(t:List UInt8)(o a:Nat)(h:a<=4):eg ((t.drop o).take a)<4294967296:=by
 have b:=rr ((t.drop o).take a);have c:256^((t.drop o).take a).length<=256^4:=Nat.pow_le_pow_right (by decide) (by simp;omega);have d:(256:Nat)^4=4294967296:=by decide
 omega
theorem ahi(i:Nat)(h:i<4):gB (i+1)-gB i<=4:=by
 rcases uX h with rfl|rfl|rfl|rfl<;>decide
theorem ad5(t:List UInt8):jZ t 0=cT t∧jZ t 1=(eG t).ph∧jZ t 2=(eG t).pr∧jZ t 3=(eG t).at_:=⟨rfl,rfl,rfl,rfl⟩
def lU(t:List UInt8)(i:Nat):List Value:=(List.range i).map fun k=>.int .i64 (jZ t k:Nat)
theorem wa(t:List UInt8)(i:Nat):lU t (i+1)=lU t i++[.int .i64 (jZ t i:Nat)]:=by simp[lU,List.range_succ]
theorem Tryz.infoI:(prog.info? 3).map (fun i=>(i.zero,i.size,i.bytes))=some (some (.int .i64 0),1,8):=by kernel_rfl
end Go.Proofs.YtaehdgemkafinaaGreatDoor
