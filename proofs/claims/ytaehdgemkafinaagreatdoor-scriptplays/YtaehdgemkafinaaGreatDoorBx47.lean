/-
  On the way to SPlaysProof: X7.
-/
import Derived.Test.YtaehdgemkafinaaGreatDoorBx45
set_option maxHeartbeats 8000000
set_option maxRecDepth 100000
namespace Go.Proofs.YtaehdgemkafinaaGreatDoor
open Go.RowKit
open Go.Proofs.Tryz
theorem ai7(e:Array Value)(h:e.size=37):∃f g i j k l m n o p q r s t u v w x y z A B C D E F G H I J K L M N O P Q:Value,e=#[f,g,i,j,k,l,m,n,o,p,q,r,s,t,u,v,w,x,y,z,A,B,C,D,E,F,G,H,I,J,K,L,M,N,O,P,Q]:=by
 obtain⟨a⟩:=e;have d:a.length=37:=h;obtain⟨f,a,rfl⟩:∃b c,a=b::c:=bO (by omega);simp only[bq]at d;obtain⟨g,a,rfl⟩:∃b c,a=b::c:=bO (by omega);simp only[bq]at d;obtain⟨i,a,rfl⟩:∃b c,a=b::c:=bO (by omega);simp only[bq]at d;obtain⟨j,a,rfl⟩:∃b c,a=b::c:=bO (by omega);simp only[bq]at d;obtain⟨k,a,rfl⟩:∃b c,a=b::c:=bO (by omega);simp only[bq]at d;obtain⟨l,a,rfl⟩:∃b c,a=b::c:=bO (by omega);simp only[bq]at d;obtain⟨m,a,rfl⟩:∃b c,a=b::c:=bO (by omega);simp only[bq]at d;obtain⟨n,a,rfl⟩:∃b c,a=b::c:=bO (by omega);simp only[bq]at d;obtain⟨o,a,rfl⟩:∃b c,a=b::c:=bO (by omega);simp only[bq]at d;obtain⟨p,a,rfl⟩:∃b c,a=b::c:=bO (by omega);simp only[bq]at d;obtain⟨q,a,rfl⟩:∃b c,a=b::c:=bO (by omega);simp only[bq]at d;obtain⟨r,a,rfl⟩:∃b c,a=b::c:=bO (by omega);simp only[bq]at d;obtain⟨s,a,rfl⟩:∃b c,a=b::c:=bO (by omega);simp only[bq]at d;obtain⟨t,a,rfl⟩:∃b c,a=b::c:=bO (by omega);simp only[bq]at d;obtain⟨u,a,rfl⟩:∃b c,a=b::c:=bO (by omega);simp only[bq]at d;obtain⟨v,a,rfl⟩:∃b c,a=b::c:=bO (by omega);simp only[bq]at d;obtain⟨w,a,rfl⟩:∃b c,a=b::c:=bO (by omega);simp only[bq]at d;obtain⟨x,a,rfl⟩:∃b c,a=b::c:=bO (by omega);simp only[bq]at d;obtain⟨y,a,rfl⟩:∃b c,a=b::c:=bO (by omega);simp only[bq]at d;obtain⟨z,a,rfl⟩:∃b c,a=b::c:=bO (by omega);simp only[bq]at d;obtain⟨A,a,rfl⟩:∃b c,a=b::c:=bO (by omega);simp only[bq]at d;obtain⟨B,a,rfl⟩:∃b c,a=b::c:=bO (by omega);simp only[bq]at d;obtain⟨C,a,rfl⟩:∃b c,a=b::c:=bO (by omega);simp only[bq]at d;obtain⟨D,a,rfl⟩:∃b c,a=b::c:=bO (by omega);simp only[bq]at d;obtain⟨E,a,rfl⟩:∃b c,a=b::c:=bO (by omega);simp only[bq]at d;obtain⟨F,a,rfl⟩:∃b c,a=b::c:=bO (by omega);simp only[bq]at d;obtain⟨G,a,rfl⟩:∃b c,a=b::c:=bO (by omega);simp only[bq]at d;obtain⟨H,a,rfl⟩:∃b c,a=b::c:=bO (by omega);simp only[bq]at d;obtain⟨I,a,rfl⟩:∃b c,a=b::c:=bO (by omega);simp only[bq]at d;obtain⟨J,a,rfl⟩:∃b c,a=b::c:=bO (by omega);simp only[bq]at d;obtain⟨K,a,rfl⟩:∃b c,a=b::c:=bO (by omega);simp only[bq]at d;obtain⟨L,a,rfl⟩:∃b c,a=b::c:=bO (by omega);simp only[bq]at d;obtain⟨M,a,rfl⟩:∃b c,a=b::c:=bO (by omega);simp only[bq]at d;obtain⟨N,a,rfl⟩:∃b c,a=b::c:=bO (by omega);simp only[bq]at d;obtain⟨O,a,rfl⟩:∃b c,a=b::c:=bO (by omega);simp only[bq]at d;obtain⟨P,a,rfl⟩:∃b c,a=b::c:=bO (by omega);simp only[bq]at d;obtain⟨Q,a,rfl⟩:∃b c,a=b::c:=bO (by omega);simp only[bq]at d;obtain rfl:a=[]:=List.eq_nil_of_length_eq_zero (by omega);exact⟨f,g,i,j,k,l,m,n,o,p,q,r,s,t,u,v,w,x,y,z,A,B,C,D,E,F,G,H,I,J,K,L,M,N,O,P,Q,rfl⟩
section
variable {w0 w w1 w':World} {C C':Nat→Nat} {aw:Option Addr} {cap k:Nat} {zs:List Int}
theorem aei(t:IsSl w (.slice aw zs.length cap) zs)(p:bT zs=0):Calls prog 14 #[.slice aw zs.length cap] w fun e w'=>∃C j,e=.returned (.pointer (some ⟨j.xb,0,none⟩))∧RW w w' C j aw cap zs dM 0:=by
 obtain⟨B,D,-⟩:=bp p;have E:=hid t;have F:=hid p;obtain⟨b,q⟩:=nmd (zs.length);rw[q.out]at B D ⊢;obtain⟨h,l⟩:=nmd (w.alloc (.cells #[.slice aw b cap,.slice none 0 0,.slice none 0 0,.slice none 0 0,.slice none 0 0] 58));have a9:=l.out;have G:Hid (Below w.heap.size w h):=by rw[<-l.out];exact aD
 have H:Hid (h.heap[w.heap.size]?=some (.cells #[.slice aw zs.length cap,.slice none 0 0,.slice none 0 0,.slice none 0 0,.slice none 0 0] 58 (0,0))):=by rw[<-l.out,q.out];exact aB w _
 have b0:∀w,(Instr.makeSlice 60 (.int .i64 512) (.int .i64 512)).run prog w=.ok (.slice (some ⟨w.heap.size,0,none⟩) 512 512) (w.alloc (.cells (fe (bQ 512)) 5)):=mkB 512 (by omega);have b1:=adt;have b2:=adw;clear t p
 go_enter func14,ntmps14
 go_wp2_with fail
 go_loopw [4] (fun m wr=>∃k:Nat,k<=b∧m=.int .i64 (k:Int)∧∃C r s,RWN w wr C w.heap.size r s aw cap zs k) (fun m _=>b-(intOf m).toNat)
 case atStart =>
  have b3:h.heap.size=w.heap.size+1:=by rw[<-l.out];simp
  refine⟨0,Nat.zero_le _,rfl,fun i=>if i=w.heap.size then 1001 else 2000,.slice none 0 0,fun _=>qx 0 0 0 0 0 0 0 0 0,⟨G.out,H.out,World.ownsRow_nil _ _ _ _,fun b4 hi=>(by omega),af rfl,fun b5 I=>(by cases I),fun i d=>?_,fun i d=>?_⟩⟩
  ·by_cases e:i=w.heap.size
   ·omega
   ·rw[aa e]at d;omega
  ·by_cases e:i=w.heap.size
   ·omega
   ·rw[aa e]at d;omega
 case round =>
  obtain⟨k,hk,rfl,C,r,s,f⟩:=hrel
  rename_i wr
  have u:=hid f;clear f
  by_cases b6:k<b
  ·obtain⟨c,n⟩:=nmd ((wr.alloc (.cells (fe (bQ 512)) 5)))
   have b7:(convert 60 9 (.slice (some ⟨wr.heap.size,0,none⟩) 512 512)).run prog c=.ok (.string (bQ 512)) c:=ahT (by rw[<-n.out];exact aB wr _);have b8:=n.out;obtain⟨g,o⟩:=nmd (c.alloc (.cells #[.string (bQ 512),.bool false,.int .i64 0,.bool false] 62));have hW:=o.out;have J:Hid (Below wr.heap.size wr g):=by rw[<-o.out,<-n.out];exact(aD).alloc (by simp) _
   have K:Hid (RP g c.heap.size (bQ 512) false 0 false):=by rw[<-o.out];exact aB c _
   have L:Hid (c.heap.size=wr.heap.size+1∧g.heap.size=wr.heap.size+2):=by
    have v:c.heap.size=wr.heap.size+1:=by rw[<-n.out];simp
    exact⟨v,by rw[<-o.out];simp[v]⟩
   go_wp2_with fail
   refine act (w0:=w) (wr:=wr) (W:=g) (W3:=c) (C:=C) (nv:=r) (K:=s) (aw:=aw) (cap:=cap) (k:=k) (zs:=zs) ⟨u.out,by omega,J.out,K.out,L.out,fun M w5 g5 c5 N x=>?_,fun b9 c0 m c1 w O=>O⟩ rfl rfl rfl rfl;obtain⟨P,Q⟩:=M;obtain⟨y,R,a⟩:=N;obtain⟨S,T,U,V,W,X,Y,Z,x8,x9,a0,a1,a2,c2,c3,a3,a4,a5,a6,c4,c6,c7,c8,c9,d0,d1,d2,d3,d4,d5,d6,d7,d8,d9,e0,e1,a7,rfl⟩:=ai7 P y;obtain rfl:Q=[]:=R;obtain rfl:S=.slice aw b cap:=a 0 (by omega);obtain rfl:T=undef:=a 1 (by omega);obtain rfl:U=.pointer none:=a 2 (by omega);obtain rfl:V=.pointer (some ⟨w.heap.size,0,none⟩):=a 3 (by omega);obtain rfl:W=.int .i64 (k:Int):=a 4 (by omega);obtain rfl:X=.pointer (some ⟨c.heap.size,0,none⟩):=a 5 (by omega);obtain rfl:Y=.slice aw b cap:=a 6 (by omega);obtain rfl:Z=.agg #[.slice aw b cap,.slice none 0 0,.slice none 0 0,.slice none 0 0,.slice none 0 0]:=a 7 (by omega);obtain rfl:x8=.pointer (some ⟨w.heap.size,0,none⟩):=a 8 (by omega);obtain rfl:x9=.int .i64 (k:Int):=a 9 (by omega);obtain rfl:a0=.slice aw b cap:=a 10 (by omega);obtain rfl:a1=.int .i64 (b:Int):=a 11 (by omega);obtain rfl:a2=.bool true:=a 12 (by omega);obtain rfl:a3=.slice (some ⟨wr.heap.size,0,none⟩) 512 512:=a 15 (by omega);obtain rfl:a4=.string (bQ 512):=a 16 (by omega);obtain rfl:a5=.agg #[.string (bQ 512),.bool false,.int .i64 0,.bool false]:=a 17 (by omega);obtain rfl:a6=.pointer (some ⟨c.heap.size,0,none⟩):=a 18 (by omega);obtain rfl:a7=undef:=a 36 (by omega);clear y a;have a8:=hid x;clear x
   go_wp2_with fail
   go_roundw
   case rel=>exact⟨k+1,by omega,by go_num,by obtain⟨C',K',h'⟩:=a8.out;exact⟨C',_,K',h'⟩⟩
   case measure=>simp[intOf];omega
  ·obtain rfl:k=b:=by omega
   have f:=u.out;rw[<-q.out]at f;obtain⟨j,d,z⟩:=f.done F.out E.out;have A:=hid (And.intro d z);clear f d z
   go_wp2_with fail
   go_ret
   refine⟨C,j,?_,A.2⟩;rw[A.out.1];rfl
end
end Go.Proofs.YtaehdgemkafinaaGreatDoor
