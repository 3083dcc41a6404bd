/-
  On the way to SPlaysProof: O37.
-/
import Derived.Test.YtaehdgemkafinaaGreatDoorBx49
set_option maxHeartbeats 8000000
set_option maxRecDepth 100000
namespace Go.Proofs.YtaehdgemkafinaaGreatDoor
open Go.RowKit
open Go.Proofs.Tryz
def jE(L:List E3):Bs:=Lib.join (L.map evB) [44,32]
theorem abS(a x:Bs):∀r:List Bs,Lib.joinTail a (r++[x])=Lib.joinTail a r++(a++x):=fun r=>by
 unfold Lib.joinTail;rw[List.map_append,List.flatten_append];simp
theorem agi{L:List E3}{e:E3}(h:L≠[]):jE (L++[e])=jE L++[44,32]++evB e:=by
 cases L with
 | nil=>exact absurd rfl h
 | cons a b =>
  unfold jE;rw[List.cons_append,List.map_cons,Lib.join_cons,List.map_cons,Lib.join_cons,List.map_append,List.map_cons,List.map_nil,abS];simp
theorem aih(e:E3):jE [e]=evB e:=by
 unfold jE;rw[List.map_cons,List.map_nil,Lib.join_cons];simp[Lib.joinTail]
theorem ahP(e:E3):evB e≠[]:=fun a=>by
 unfold evB at a;exact ah0 _ (List.append_eq_nil_iff.1 a).1
theorem aiL{L:List E3}(h:L≠[]):jE L≠[]:=by
 cases L with
 | nil=>exact absurd rfl h
 | cons a b =>
  unfold jE;rw[List.map_cons];exact ahc (ahP a)
theorem aix{zs:List Int}{V:PX}(a:AX zs V)(g:zs.length<=7):EvN V.evs:=fun b c=>by
 obtain⟨d,e,f,rfl,h,i,-,-⟩:=a.ex.at_ b c;exact⟨d,e,f,rfl,by omega,by omega⟩
theorem ah7{L:List E3}(h:EvN L)(k:Nat)(e:L.length<=500):(jE (L.take k)).length<=51000:=by
 have a:=uE [44,32] 100 ((L.take k).map evB) (fun f b=>by
  obtain⟨g,c,rfl⟩:=List.mem_map.1 b;exact xV h (List.mem_of_mem_take c))
 rw[List.length_map,bI]at a;have d:min k L.length<=500:=by omega
 have i:min k L.length*(100+([44,32]:Bs).length)<=500*102:=Nat.mul_le_mul d aj;unfold jE;omega
structure EvI (W wr:World) (L:List E3) (k:Nat) (u:Value):Prop where
 bel:Below W.heap.size W wr
 out:u=.string (bB (jE (L.take k)))
section
variable {w0 w:World} {wd:ByteArray} {v:Value} {C:Nat→Nat} {Y:YB} {aw:Option Addr} {cap m:Nat} {zs:List Int} {V:PX}
theorem adC(h:fD wd 18)(hR:RW w0 w C Y aw cap zs V m)(S:AX zs V):Calls prog 16 #[.pointer (some ⟨Y.xb,0,none⟩),.agg #[.string wd,v]] w fun e w'=>e=.returned (.string (bB (eB V.evs)))∧Below w.heap.size w w':=by
 obtain⟨k0,k1,k2,k3,k4,k5,k6,k7,k8,k9,d0,d1,d2,d3,d4,d5,d6,d7,d8⟩:=gm h;obtain⟨T,hW,⟨d9,e1⟩,M⟩:=bxO w wd v;have y:=hR.later M.out;have e2:=hid y;have b6:=M.out;obtain⟨-,-,-,-,c4⟩:=y.cells;obtain⟨ae,ce,N,-,-,U⟩:=ra y.evs;have W:=y.inv.ev;have O:=y.n7;have b2:=hid (fun b=>ah7 (aix S O.2) b W);have b3:=hid S.ex.at_;obtain⟨c,HL⟩:=nmd (V.evs);rw[HL.out]at N b2 b3 U W ⊢;obtain⟨t,X⟩:=nmd (c.length);rw[X.out]at N W;rw[N]at c4;have b7:=hid c4;have b8:=hid U;obtain⟨Z,Hr⟩:=nmd (eB c);rw[Hr.out];have b9:Hid (EvI T T c 0 (.string ⟨#[]⟩)):=⟨aF,rfl⟩;have c0:=hid O.2;clear hR h b6 y N U S O
 go_enter func16,ntmps16
 go_wp2_with fail
 go_loopw [7,8] (fun c1 a0 wr=>∃b:Nat,b<=t∧a0=.int .i64 (b:Int)∧Hid (EvI T wr c b c1)) (fun _ a0 _=>t-(intOf a0).toNat)
 case atStart=>exact⟨0,Nat.zero_le _,rfl,b9.out⟩
 case round =>
  obtain⟨b,hk,rfl,p⟩:=hrel;have f4:=ag p.out.bel b7.out;have ho:=p.out.out;subst ho
  by_cases c2:b<t
  ·have c3:(b:Int)<(t:Int):=by omega
   have P:b<c.length:=by rw[X.out];exact c2
   obtain⟨e3,e4,c5,e0,s,u⟩:=b8.out.later p.out.bel b P;subst c5;have a1:=hid (List.take_succ_eq_append_getElem P);obtain⟨i,g,f,hx,hi,hd,hp,-⟩:=b3.out (c[b]'P) (List.getElem_mem P);rw[hx]at e0 s u a1;simp only at e0 s u;have Q:=b2.out b;have O:zs.length<=7:=c0.out;obtain⟨d,a2⟩:=nmd (wr.alloc (.cells #[.int .i64 (i:Int),.int .i64 (g:Int),.int .i64 (f:Int)] 77));have e5:=a2.out;have b4:Hid (Below wr.heap.size wr d):=by rw[<-a2.out];exact aD
   have a3:Hid (d.heap[wr.heap.size]?=some (.cells #[.int .i64 (i:Int),.int .i64 (g:Int),.int .i64 (f:Int)] 77 (0,0))):=by rw[<-a2.out];exact aB wr _
   have z:d.cell? ⟨wr.heap.size,0,none⟩=some (.int .i64 (i:Int)):=by rw[ai a3.out];rfl
   have A:d.cell? ⟨wr.heap.size,1,none⟩=some (.int .i64 (g:Int)):=by rw[ai a3.out];rfl
   have B:d.cell? ⟨wr.heap.size,2,none⟩=some (.int .i64 (f:Int)):=by rw[ai a3.out];rfl
   by_cases a4:b=0
   ·have c6:¬(0:Int)<(b:Int):=by omega
    have c7:=hid a4;clear a4;have HOut:Hid ((((((bB (jE (c.take b)))++bB (Lib.decDigits i))++(⟨#[32]⟩:ByteArray))++bB (Lib.decDigits g))++(⟨#[32]⟩:ByteArray))++bB (cI (f:Int))=bB (jE (c.take b++[⟨i,g,f⟩]))):=by
     change _=_;rw[c7.out,List.take_zero,List.nil_append,aih,show(⟨#[32]⟩:ByteArray)=bB [32]from rfl,eQ,eQ,eQ,eQ,eQ];unfold evB;simp[jE,Lib.join_nil]
    have E:(bB (jE (c.take b))).size<=51000:=Q;generalize bB (jE (c.take b))=j at E HOut;have F:=hid (gl i d.drew (by omega));have a5:Hid (d.drew.cell? ⟨wr.heap.size,0,none⟩=some (.int .i64 (i:Int))∧d.drew.cell? ⟨wr.heap.size,1,none⟩=some (.int .i64 (g:Int))∧d.drew.cell? ⟨wr.heap.size,2,none⟩=some (.int .i64 (f:Int))):=⟨z,A,B⟩;have G:Hid (∀a:World,Calls prog 20 #[.int .i64 (g:Int)] a fun e w'=>e=.returned (.string (bB (Lib.decDigits g)))∧Below a.heap.size a w'):=fun a=>gl g a (by omega)
    have H:Hid (∀a:World,Calls prog 33 #[.int .i64 (f:Int)] a fun e w'=>e=.returned (.string (bB (cI (f:Int))))∧Below a.heap.size a w'):=fun a=>nx f (by omega) a
    have I:=gF i (by omega);have J:=gF g (by omega);have K:(bB (cI (f:Int))).size<=20:=ib (f:Int);generalize bB (Lib.decDigits i)=k at F I HOut;generalize bB (Lib.decDigits g)=x at G J HOut;generalize bB (cI (f:Int))=x3 at H K HOut;have z4:(⟨#[32]⟩:ByteArray).size=1:=rfl;have u1:(9223372036854775807<j.size+k.size)=False:=eq_false (by omega);have u2:(9223372036854775807<j.size+k.size+1)=False:=eq_false (by omega);have u3:(9223372036854775807<j.size+k.size+1+x.size)=False:=eq_false (by omega);have u4:(9223372036854775807<j.size+k.size+1+x.size+1)=False:=eq_false (by omega);have u5:(9223372036854775807<j.size+k.size+1+x.size+1+x3.size)=False:=eq_false (by omega);clear I J K z4 E Q
    go_wp2_with fail
    go_region_held3 (fun a=>a.cell? ⟨wr.heap.size,0,none⟩=some (.int .i64 (i:Int))∧a.cell? ⟨wr.heap.size,1,none⟩=some (.int .i64 (g:Int))∧a.cell? ⟨wr.heap.size,2,none⟩=some (.int .i64 (f:Int))) (first|with_reducible exact a6|with_reducible exact q|with_reducible exact r|with_reducible exact a5.out|with_reducible exact⟨z,A,B⟩) (first
     | (go_at_call 20;(with_reducible refine F.out.mono ?_);rintro e L ⟨rfl,l⟩;have a7:=hid l;have r:=And.intro (ag l z) (And.intro (ag l A) (ag l B));clear l)
     | (go_at_call 20;(with_reducible refine(G.out L).mono ?_);rintro e w3 ⟨rfl,n⟩;have a8:=hid n;have q:=And.intro (ag n r.1) (And.intro (ag n r.2.1) (ag n r.2.2));clear n)
     | (go_at_call 33;(with_reducible refine(H.out w3).mono ?_);rintro e w4 ⟨rfl,o⟩;have a9:=hid o;have a6:=And.intro (ag o q.1) (And.intro (ag o q.2.1) (ag o q.2.2));clear o))
    go_wp2_with fail
    go_roundw
    case rel =>
     refine⟨b+1,by omega,by go_num,?_⟩;have b0:Below d.heap.size d w4:=ao (show Below d.heap.size d L from((Below.refl _ d).drew).trans a7.out) (ao a8.out a9.out);refine⟨p.out.bel.trans ((ao b4.out b0).mono p.out.bel.size),?_⟩;rw[a1.out,<-HOut.out]
    case measure=>simp[intOf];omega
   ·have c6:(0:Int)<(b:Int):=by omega
    have c8:c.take b≠[]:=fun e=>by
     have:=congrArg List.length e;rw[bI,Nat.min_eq_left (by omega)]at this;exact a4 this
    have HOut:Hid ((((((bB (jE (c.take b))++(⟨#[44,32]⟩:ByteArray))++bB (Lib.decDigits i))++(⟨#[32]⟩:ByteArray))++bB (Lib.decDigits g))++(⟨#[32]⟩:ByteArray))++bB (cI (f:Int))=bB (jE (c.take b++[⟨i,g,f⟩]))):=by
     change _=_;rw[agi c8,show(⟨#[32]⟩:ByteArray)=bB [32]from rfl,show(⟨#[44,32]⟩:ByteArray)=bB [44,32]from rfl,eQ,eQ,eQ,eQ,eQ,eQ];unfold evB;simp
    have c9:(bB (jE (c.take b))).size<=51000:=Q;generalize bB (jE (c.take b))=o0 at c9 HOut;have z9:(⟨#[44,32]⟩:ByteArray).size=2:=rfl;have E:(o0++(⟨#[44,32]⟩:ByteArray)).size<=51002:=by rw[ByteArray.size_append];omega
    obtain⟨j,b5⟩:=nmd (o0++(⟨#[44,32]⟩:ByteArray));have e6:=b5.out;rw[b5.out]at HOut E;have F:=hid (gl i d.drew (by omega));have a5:Hid (d.drew.cell? ⟨wr.heap.size,0,none⟩=some (.int .i64 (i:Int))∧d.drew.cell? ⟨wr.heap.size,1,none⟩=some (.int .i64 (g:Int))∧d.drew.cell? ⟨wr.heap.size,2,none⟩=some (.int .i64 (f:Int))):=⟨z,A,B⟩;have G:Hid (∀a:World,Calls prog 20 #[.int .i64 (g:Int)] a fun e w'=>e=.returned (.string (bB (Lib.decDigits g)))∧Below a.heap.size a w'):=fun a=>gl g a (by omega)
    have H:Hid (∀a:World,Calls prog 33 #[.int .i64 (f:Int)] a fun e w'=>e=.returned (.string (bB (cI (f:Int))))∧Below a.heap.size a w'):=fun a=>nx f (by omega) a
    have I:=gF i (by omega);have J:=gF g (by omega);have K:(bB (cI (f:Int))).size<=20:=ib (f:Int);generalize bB (Lib.decDigits i)=k at F I HOut;generalize bB (Lib.decDigits g)=x at G J HOut;generalize bB (cI (f:Int))=x3 at H K HOut;have z4:(⟨#[32]⟩:ByteArray).size=1:=rfl;have u1:(9223372036854775807<j.size+k.size)=False:=eq_false (by omega);have u2:(9223372036854775807<j.size+k.size+1)=False:=eq_false (by omega);have u3:(9223372036854775807<j.size+k.size+1+x.size)=False:=eq_false (by omega);have u4:(9223372036854775807<j.size+k.size+1+x.size+1)=False:=eq_false (by omega);have u5:(9223372036854775807<j.size+k.size+1+x.size+1+x3.size)=False:=eq_false (by omega);clear I J K z4 E Q
    go_wp2_with fail
    go_region_held3 (fun a=>a.cell? ⟨wr.heap.size,0,none⟩=some (.int .i64 (i:Int))∧a.cell? ⟨wr.heap.size,1,none⟩=some (.int .i64 (g:Int))∧a.cell? ⟨wr.heap.size,2,none⟩=some (.int .i64 (f:Int))) (first|with_reducible exact a6|with_reducible exact q|with_reducible exact r|with_reducible exact a5.out|with_reducible exact⟨z,A,B⟩) (first
     | (go_at_call 20;(with_reducible refine F.out.mono ?_);rintro e L ⟨rfl,l⟩;have a7:=hid l;have r:=And.intro (ag l z) (And.intro (ag l A) (ag l B));clear l)
     | (go_at_call 20;(with_reducible refine(G.out L).mono ?_);rintro e w3 ⟨rfl,n⟩;have a8:=hid n;have q:=And.intro (ag n r.1) (And.intro (ag n r.2.1) (ag n r.2.2));clear n)
     | (go_at_call 33;(with_reducible refine(H.out w3).mono ?_);rintro e w4 ⟨rfl,o⟩;have a9:=hid o;have a6:=And.intro (ag o q.1) (And.intro (ag o q.2.1) (ag o q.2.2));clear o))
    go_wp2_with fail
    go_roundw
    case rel =>
     refine⟨b+1,by omega,by go_num,?_⟩;have b0:Below d.heap.size d w4:=ao (show Below d.heap.size d L from((Below.refl _ d).drew).trans a7.out) (ao a8.out a9.out);refine⟨p.out.bel.trans ((ao b4.out b0).mono p.out.bel.size),?_⟩;rw[a1.out,<-HOut.out]
    case measure=>simp[intOf];omega
  ·obtain rfl:b=t:=by omega
   have c3:¬(b:Int)<(b:Int):=by omega
   have b1:c.take b=c:=List.take_of_length_le (Nat.le_of_eq X.out);rw[b1]
   by_cases D:c=[]
   ·have s:eB c=[110,111,116,104,105,110,103]:=af D
    have u:bB (jE c)=⟨#[]⟩:=by rw[D];rfl
    have R:=hid s;rw[u];clear s u b1 D
    go_wp2_with fail
    go_ret
    exact⟨by rw[<-Hr.out,R.out];rfl,ao M.out p.out.bel⟩
   ·have s:eB c=jE c:=aa D
    have u:((bB (jE c)).toList==[])=false:=by
     rw[Lib.toList_data];have:=aiL D
     cases hj:jE c with
     | nil=>exact absurd hj this
     | cons e7 Z=>rfl
    have R:Hid (bB (eB c)=bB (jE c)):=by rw[s];exact hid rfl
    generalize bB (jE c)=j at u R ⊢;clear s b1 D
    go_wp2_with fail
    go_ret
    exact⟨by rw[<-Hr.out,R.out];rfl,ao M.out p.out.bel⟩
end
end Go.Proofs.YtaehdgemkafinaaGreatDoor
