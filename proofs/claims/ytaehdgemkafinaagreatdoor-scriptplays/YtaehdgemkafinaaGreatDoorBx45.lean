/-
  On the way to SPlaysProof: XY X6D X6E.
-/
import Derived.Test.YtaehdgemkafinaaGreatDoorBx43
set_option maxHeartbeats 8000000
set_option maxRecDepth 100000
namespace Go.Proofs.YtaehdgemkafinaaGreatDoor
open Go.RowKit
open Go.Proofs.Tryz
section
variable {w0 v0 w w1 w':World} {C D C' D':Nat→Nat} {X:XB} {Y:YB} {aw:Option Addr} {i n cap m m' M:Nat} {zs:List Int} {V V' V1 V2:PX} {A:Nat→Addr}
theorem abe(s:Int)(c:Nat)(h:RW w0 w C Y aw cap zs V m)(d:m<900000)(a:cUp zs.length V s=c):Calls prog 24 #[.pointer (some ⟨Y.xb,0,none⟩),.int .i64 s] w fun e w'=>e=.returned (.int .i64 (c:Int))∧ROut w0 w w' C Y aw cap zs (if c=0 then dJ zs s.toNat 6 0 V else V) (m+42):=by
 by_cases b:c=0
 ·subst b
  obtain⟨f,rfl,g,j⟩:=nw a;rw[af rfl,aU];exact ae2 f h g j d
 ·rw[aa b]
  have k:=hid h;have l:=hid (kw s c h a);have o:¬((c:Int)<=0):=by omega
  have p:(0:Int)<(c:Int):=by omega
  clear h a
  go_enter func24,ntmps24
  go_wp2_with fail
  refine l.mono ?_;rintro e w1 ⟨rfl,q⟩;subst w1
  go_wp2_with fail
  go_ret
  exact⟨rfl,k.out.out aF (by omega)⟩
end
structure NwH (Q:Exit->Act->World->Prop) (a0:Act) (w0 wr W W3:World) (C:Nat->Nat) (nv:Value) (K:Nat->RB) (aw:Option Addr) (cap k:Nat) (zs:List Int):Prop where
 rn:RWN w0 wr C w0.heap.size nv K aw cap zs k
 k7:k<7
 bl:Below wr.heap.size wr W
 rp:RP W W3.heap.size (bQ 512) false 0 false
 s3:W3.heap.size=wr.heap.size+1∧W.heap.size=wr.heap.size+2
 q:∀(a':Act) (w5:World) (g5 c5:Nat),Sm a0 a'->(∃C' K',RWN w0 (w5.setCell ⟨w0.heap.size,1,none⟩ (.slice (some ⟨g5,0,none⟩) (k+1) c5)) C' w0.heap.size (.slice (some ⟨g5,0,none⟩) (k+1) c5) K' aw cap zs (k+1))->Q .normal a' (w5.setCell ⟨w0.heap.size,1,none⟩ (.slice (some ⟨g5,0,none⟩) (k+1) c5))
 qp:∀c (d:Nat) v (a:Act) w,Q (.panic c) (a.put (some d) v) w->Q (.panic c) a w
section
variable {Q:Exit→Act→World→Prop} {a0:Act} {w0 wr W W3 w w1:World} {C:Nat→Nat} {a:Act} {nv:Value} {K:Nat→RB} {aw:Option Addr} {cap k:Nat} {zs:List Int} {ld cl lL lD:Bool} {p:Nat} {t mm gn gs gb ls dn:Nat}
theorem NwH.cell(h:NwH Q a0 w0 wr W W3 C nv K aw cap k zs)(b:Below W.heap.size W w):w.cell? ⟨w0.heap.size,1,none⟩=some nv:=by
 have c:=(b.block _ (bm (ah h.rn.row) h.bl.size)).trans ((h.bl.block _ (ah h.rn.row)).trans h.rn.row);rw[ai c];rfl
structure NwF (W w1:World) (k r t mm gn gs gb ls dn:Nat):Prop where
 bel:Below W.heap.size W w1
 rj:RJ w1 mm gn gs r (au (bQ 512).data.toList) false
 rs:RSt w1 t mm gb (k:Int) (fun _=>false)
 lo:W.heap.size<=t∧W.heap.size<=mm∧W.heap.size<=gn∧W.heap.size<=gs∧W.heap.size<=gb
 ht:t≠mm∧t≠gn∧t≠gs∧t≠gb
 hg:gb≠mm∧gb≠gn∧gb≠gs
 rl:w1.heap[ls]?=some (.cells #[.pointer none,.pointer none,.pointer none,.pointer none,.pointer none,.pointer none] 111 (0,0))
 rd:w1.heap[dn]?=some (.cells #[.bool false,.bool false,.bool false,.bool false,.bool false,.bool false] 4 (0,0))
 l1:W.heap.size<=ls
 l2:W.heap.size<=dn
 xLD:ls≠dn
 xLS:ls≠t∧ls≠mm∧ls≠gn∧ls≠gs∧ls≠gb
 xDS:dn≠t∧dn≠mm∧dn≠gn∧dn≠gs∧dn≠gb
structure NwB (a0:Act) (W w1 w:World) (a:Act) (nv:Value) (xb k r:Nat) (ld:Bool) (p:Nat) (t mm gn gs gb ls dn:Nat):Prop where
 f:NwF W w1 k r t mm gn gs gb ls dn
 sm:Sm a0 a
 sz:a0.tmps.size=37
 e19:a.eval (.tmp 19)=.pointer (some ⟨xb,0,none⟩)
 e22:a.eval (.tmp 22)=.pointer (some ⟨xb,1,none⟩)
 bel:Below w1.heap.size w1 w
 e23:ld=true->a.eval (.tmp 23)=nv
 p1:p=1->w=w1∧a.eval (.tmp 30)=.agg #[.pointer (some ⟨t,0,none⟩),.pointer (some ⟨r,0,none⟩),.slice (some ⟨ls,0,none⟩) 6 6,.slice (some ⟨dn,0,none⟩) 6 6]
 p2:2<=p->w.heap[w1.heap.size]?=some (.cells #[.pointer (some ⟨t,0,none⟩),.pointer (some ⟨r,0,none⟩),.slice (some ⟨ls,0,none⟩) 6 6,.slice (some ⟨dn,0,none⟩) 6 6] 69 (0,0))
 p3:p=2->a.eval (.tmp 31)=.pointer (some ⟨w1.heap.size,0,none⟩)
 p4:p=3->∃b,a.eval (.tmp 32)=.slice (some ⟨b,0,none⟩) 1 1∧∀j u,[Value.pointer (some ⟨w1.heap.size,0,none⟩)][j]?=some u->w.cell? ((⟨b,0,none⟩:Addr).add j)=some u
theorem NwB.size{xb r:Nat}(h:NwB a0 W w1 w a nv xb k r ld p t mm gn gs gb ls dn):a.tmps.size=37:=h.sm.1.trans h.sz
theorem pZ{e:Act->World->Prop}(H:NwH Q a0 w0 wr W W3 C nv K aw cap k zs)(h:NwB a0 W w1 w a nv w0.heap.size k W3.heap.size ld p t mm gn gs gb ls dn)(f:∀g,NwB a0 W w1 w g nv w0.heap.size k W3.heap.size true p t mm gn gs gb ls dn->e g w):wpOp prog dg Q 4 e a w:=by
 have l:=h.size;have b:∀d,d≠23->(a.put (some 23) nv).eval (.tmp d)=a.eval (.tmp d):=fun d m=>bE _ _ _ _ (Ne.symm m)
 have i:NwB a0 W w1 w (a.put (some 23) nv) nv w0.heap.size k W3.heap.size true p t mm gn gs gb ls dn:=⟨h.f,h.sm.put (by omega) (by omega),h.sz,(b _ (by decide)).trans h.e19,(b _ (by decide)).trans h.e22,h.bel,fun _=>eP _ _ _ (by omega),fun c=>⟨(h.p1 c).1,(b _ (by decide)).trans (h.p1 c).2⟩,h.p2,fun c=>(b _ (by decide)).trans (h.p3 c),fun c=>by obtain⟨n,o,q⟩:=h.p4 c;exact⟨n,(b _ (by decide)).trans o,q⟩⟩;have s:=H.cell (h.f.bel.trans (h.bel.mono h.f.bel.size));refine wpOp_step (o:={ dst:=some 23,op:=Op.load 53 (Operand.tmp 22),type:=53,pos:= "world.go:231",after:=#[{ on:=3,ground:=Ground.data }],guard:=none }) rfl (fun u j=>?_);have v:=aZ h.e22;have r:=hid (j _ _ (f _ i));clear f j h i l b H
 go_simp
 exact r
theorem sI{e:Act->World->Prop}(h:NwI a0 W w a nv w0.heap.size k W3.heap.size ld true true true t mm gn gs gb ls dn)(f:∀g,NwB a0 W w w g nv w0.heap.size k W3.heap.size ld 1 t mm gn gs gb ls dn->e g w):wpOp prog dg Q 11 e a w:=by
 have l:=h.size;obtain⟨m,n,o,q,r,s⟩:=h.site rfl;obtain⟨u,v,x⟩:=h.leads rfl;obtain⟨y,z,A⟩:=h.done rfl;have b:∀c,c≠30->(a.put (some 30) (.agg #[pV t,pV W3.heap.size,.slice (some ⟨ls,0,none⟩) 6 6,.slice (some ⟨dn,0,none⟩) 6 6])).eval (.tmp c)=a.eval (.tmp c):=fun c B=>bE _ _ _ _ (Ne.symm B)
 have i:NwB a0 W w w (a.put (some 30) (.agg #[pV t,pV W3.heap.size,.slice (some ⟨ls,0,none⟩) 6 6,.slice (some ⟨dn,0,none⟩) 6 6])) nv w0.heap.size k W3.heap.size ld 1 t mm gn gs gb ls dn:=⟨⟨h.bel,n,o,q,r,s,v,z,x,A,h.xLD rfl rfl,h.xLS rfl rfl,h.xDS rfl rfl⟩,h.sm.put (by omega) (by omega),h.sz,(b _ (by decide)).trans h.e19,(b _ (by decide)).trans h.e22,aF,fun d=>(b _ (by decide)).trans (h.e23 d),fun _=>⟨rfl,eP _ _ _ (by omega)⟩,fun d=>by omega,fun d=>by omega,fun d=>by omega⟩;refine wpOp_step (o:={ dst:=some 30,op:=Op.build 69 #[(0,Operand.tmp 26),(1,Operand.tmp 27),(2,Operand.tmp 28),(3,Operand.tmp 29)],type:=69,pos:= "world.go:231",after:=#[{ on:=7,ground:=Ground.data },{ on:=8,ground:=Ground.data },{ on:=9,ground:=Ground.data },{ on:=10,ground:=Ground.data }],guard:=none }) rfl (fun E j=>?_);have F:=aZ m;have G:=aZ h.e27;have H:=aZ u;have I:=aZ y;have D:=hid (j _ _ (f _ i));clear f j h i l b
 go_simp
 exact D
theorem xW{e:Act->World->Prop}(h:NwB a0 W w1 w a nv w0.heap.size k W3.heap.size ld 1 t mm gn gs gb ls dn)(f:∀g w',NwB a0 W w1 w' g nv w0.heap.size k W3.heap.size ld 2 t mm gn gs gb ls dn->e g w'):wpOp prog dg Q 12 e a w:=by
 have l:=h.size;obtain⟨rfl,m⟩:=h.p1 rfl;have b:∀c,c≠31->(a.put (some 31) (pV w.heap.size)).eval (.tmp c)=a.eval (.tmp c):=fun c n=>bE _ _ _ _ (Ne.symm n)
 have i:NwB a0 W w (w.alloc (.cells #[pV t,pV W3.heap.size,.slice (some ⟨ls,0,none⟩) 6 6,.slice (some ⟨dn,0,none⟩) 6 6] 69)) (a.put (some 31) (pV w.heap.size)) nv w0.heap.size k W3.heap.size ld 2 t mm gn gs gb ls dn:=⟨h.f,h.sm.put (by omega) (by omega),h.sz,(b _ (by decide)).trans h.e19,(b _ (by decide)).trans h.e22,aD,fun d=>(b _ (by decide)).trans (h.e23 d),fun d=>by omega,fun _=>aB w _,fun _=>eP _ _ _ (by omega),fun d=>by omega⟩;refine wpOp_step (o:={ dst:=some 31,op:=Op.box 69 (Operand.tmp 30),type:=63,pos:= "world.go:231",after:=#[{ on:=11,ground:=Ground.data }],guard:=none }) rfl (fun q j=>?_);have r:=aZ m;have o:=hid (j _ _ (f _ _ i));clear f j h i l b
 go_simp
 exact o
theorem xT{e:Act->World->Prop}(h:NwB a0 W w1 w a nv w0.heap.size k W3.heap.size ld 2 t mm gn gs gb ls dn)(f:∀g w',NwB a0 W w1 w' g nv w0.heap.size k W3.heap.size ld 3 t mm gn gs gb ls dn->e g w'):wpOp prog dg Q 13 e a w:=by
 have m:=h.size;have n:=h.p3 rfl;have b:∀c,c≠32->(a.put (some 32) (.slice (some ⟨w.heap.size,0,none⟩) 1 1)).eval (.tmp c)=a.eval (.tmp c):=fun c o=>bE _ _ _ _ (Ne.symm o)
 have i:bW w1 (w.alloc (.cells #[pV w1.heap.size] 63)):=h.bel.alloc h.bel.size _;have j:NwB a0 W w1 (w.alloc (.cells #[pV w1.heap.size] 63)) (a.put (some 32) (.slice (some ⟨w.heap.size,0,none⟩) 1 1)) nv w0.heap.size k W3.heap.size ld 3 t mm gn gs gb ls dn:=⟨h.f,h.sm.put (by omega) (by omega),h.sz,(b _ (by decide)).trans h.e19,(b _ (by decide)).trans h.e22,i,fun d=>(b _ (by decide)).trans (h.e23 d),fun d=>by omega,fun _=>nQ (h.p2 (by omega)),fun d=>by omega,fun _=>⟨_,eP _ _ _ (by omega),fM w [pV w1.heap.size] 63⟩⟩;refine wpOp_step (o:={ dst:=some 32,op:=Op.buildSlice 53 1 #[(0,Operand.tmp 31)],type:=53,pos:= "world.go:231",after:=#[{ on:=12,ground:=Ground.data }],guard:=none }) rfl (fun r l=>?_);have s:=aZ n;have q:=hid (l _ _ (f _ _ j));clear f l h j m b i
 go_simp
 exact q
theorem xS(H:NwH Q a0 w0 wr W W3 C nv K aw cap k zs)(h:NwB a0 W w1 w a nv w0.heap.size k W3.heap.size true 3 t mm gn gs gb ls dn):wpAny prog .any dg Q 4 #[true,true,true,true,true,true,true,true,true,true,true,true,true,true,false,false,false,false] a w:=by
 have c:=hid H;have M:=hid (RWN.fin (hid H.rn) H.k7 (hid H.bl) (hid H.rp) (hid H.s3));have N:=hid h.f;have E:=hid h.size;have O:=h.sm;obtain⟨P,R,S⟩:=h.p4 rfl;have T:=hid (h.p2 (by omega));have U:=h.e23 rfl;have v:=h.e19;have x:=hid h.bel;have y:=hid (h.f.bel.trans (h.bel.mono h.f.bel.size));clear h H;have V:Hid (w.ownsRow w0.heap.size 63 1 nv k (gP K k)):=aV c.rn.ns (Kept.of_below (S:=fun _=>False) (c.bl.trans (y.mono c.bl.size))) (fun _ _ z=>z);have X:Hid (w0.heap.size<=w.heap.size):=bc c.rn.bel.size (bc c.bl.size y.size);have b4:=c.k7;obtain⟨Y,Z,a1,a2,a3⟩:=info_parts Tryz.infoPRN;refine wpAny_all (rs:=[14]) (by kernel_rfl) (by simp) (fun i d=>?_);obtain rfl:i=14:=by simpa using d
 refine wpOp_step (o:={ dst:=some 33,op:=Op.call { callee:=Callee.builtin Builtin.append,args:=#[Operand.tmp 23,Operand.tmp 32],argTypes:=#[53,53] },type:=53,pos:= "world.go:231",after:=#[{ on:=4,ground:=Ground.data },{ on:=13,ground:=Ground.data },{ on:=7,ground:=Ground.chain }],guard:=none }) rfl (fun n e=>?_);refine step_append_lies _ rfl (.tmp 23) (.tmp 32) _ rfl w0.heap.size 63 Y (.pointer none) 1 8 underlying53 Z a1 a2 a3 rfl (by decide) nv k (gP K k) U V ⟨P,0,none⟩ 1 1 [pV w1.heap.size] R rfl S (by intro b5 F;simp at F;subst F;rfl) (by decide) (by unfold maxLen;omega) (by omega) X w.heap.size rfl ?_;intro f g u G A I a4;refine e _ _ ?_;clear e n d;have a5:Hid (∃C' K',RWN w0 (u.setCell ⟨w0.heap.size,1,none⟩ (.slice (some ⟨f,0,none⟩) (k+1) g)) C' w0.heap.size (.slice (some ⟨f,0,none⟩) (k+1) g) K' aw cap zs (k+1)):=by
  have b:=N.out;exact M w w1 u t mm gn gs gb ls dn w1.heap.size f g b.bel x b.rj b.rs b.lo b.ht b.hg b.xLS b.xDS ⟨b.l1,b.l2,b.xLD,ah b.rl,ah b.rd,aj⟩ T (ll x b.rl) (ll x b.rd) G A I
 have a6:Hid (u.cell? ⟨w0.heap.size,1,none⟩=some nv∧u.frozen? ⟨w0.heap.size,1,none⟩=false):=by
  have a7:=(y.block _ (bm (ah c.rn.row) c.bl.size)).trans ((c.bl.block _ (ah c.rn.row)).trans c.rn.row);have J:=(bZ A).row a7 (fun z=>by have h1:=c.rn.cn _ z;have h2:=c.rn.cx;omega);exact⟨by rw[ai J];rfl,dN J⟩
 change wpAny _ _ _ _ _ _ (Act.put a (some 33) (.slice (some ⟨f,0,none⟩) (k+1) g)) _;obtain⟨j,o⟩:=nmb (Act.put a (some 33) (.slice (some ⟨f,0,none⟩) (k+1) g));rw[<-o.out];have L:Hid (j.tmps.size=37):=by show j.tmps.size=37;rw[o.out,Act.size_put];exact E
 have m4:Sm a0 j:=by rw[o.out];exact O.put (by omega) (by omega)
 have a8:j.eval (.tmp 33)=.slice (some ⟨f,0,none⟩) (k+1) g:=by rw[o.out];exact eP _ _ _ (by have:=E.out;omega)
 have v:j.eval (.tmp 19)=pV w0.heap.size:=by rw[o.out,bE _ _ _ _ (by decide)];exact v
 clear o G A I a4;refine wpAny_all (rs:=[15]) (by kernel_rfl) (by simp) (fun i d=>?_);obtain rfl:i=15:=by simpa using d
 refine wpOp_step (o:={ dst:=some 34,op:=Op.nilCheck (Operand.tmp 19),type:=0,pos:= "world.go:231",after:=#[{ on:=0,ground:=Ground.data },{ on:=0,ground:=Ground.phase },{ on:=1,ground:=Ground.phase },{ on:=2,ground:=Ground.phase },{ on:=3,ground:=Ground.phase },{ on:=4,ground:=Ground.phase },{ on:=5,ground:=Ground.phase },{ on:=6,ground:=Ground.phase },{ on:=7,ground:=Ground.phase },{ on:=8,ground:=Ground.phase },{ on:=9,ground:=Ground.phase },{ on:=10,ground:=Ground.phase },{ on:=11,ground:=Ground.phase },{ on:=12,ground:=Ground.phase },{ on:=13,ground:=Ground.phase },{ on:=14,ground:=Ground.phase }],guard:=none }) rfl (fun n e=>?_);have a9:=aZ v;have l:=hid e;clear e d
 go_simp
 refine l _ _ ?_;clear l n a9;change wpAny _ _ _ _ _ _ (Act.put j (some 34) (pV w0.heap.size)) _;obtain⟨m,q⟩:=nmb (Act.put j (some 34) (pV w0.heap.size));rw[<-q.out];have b0:Hid (m.tmps.size=37):=by show m.tmps.size=37;rw[q.out,Act.size_put];exact L
 have m5:Sm a0 m:=by rw[q.out];exact m4.put (by omega) (by omega)
 have b1:m.eval (.tmp 34)=pV w0.heap.size:=by rw[q.out];exact eP _ _ _ (by have:=L.out;omega)
 have B:m.eval (.tmp 33)=.slice (some ⟨f,0,none⟩) (k+1) g:=by rw[q.out,bE _ _ _ _ (by decide)];exact a8
 clear q;refine wpAny_all (rs:=[16]) (by kernel_rfl) (by simp) (fun i d=>?_);obtain rfl:i=16:=by simpa using d
 refine wpOp_step (o:={ dst:=some 35,op:=Op.fieldAddr 58 (Operand.tmp 34) 1,type:=0,pos:= "world.go:231",after:=#[{ on:=15,ground:=Ground.data },{ on:=0,ground:=Ground.phase },{ on:=1,ground:=Ground.phase },{ on:=2,ground:=Ground.phase },{ on:=3,ground:=Ground.phase },{ on:=4,ground:=Ground.phase },{ on:=5,ground:=Ground.phase },{ on:=6,ground:=Ground.phase },{ on:=7,ground:=Ground.phase },{ on:=8,ground:=Ground.phase },{ on:=9,ground:=Ground.phase },{ on:=10,ground:=Ground.phase },{ on:=11,ground:=Ground.phase },{ on:=12,ground:=Ground.phase },{ on:=13,ground:=Ground.phase },{ on:=14,ground:=Ground.phase }],guard:=none }) rfl (fun n e=>?_);have b2:=aZ b1;have l:=hid e;clear e d
 go_simp
 refine l _ _ ?_;clear l n b2;change wpAny _ _ _ _ _ _ (Act.put m (some 35) (.pointer (some ⟨w0.heap.size,1,none⟩))) _;obtain⟨D,s⟩:=nmb (Act.put m (some 35) (.pointer (some ⟨w0.heap.size,1,none⟩)));rw[<-s.out];have m6:Sm a0 D:=by rw[s.out];exact m5.put (by omega) (by omega)
 have b3:D.eval (.tmp 35)=.pointer (some ⟨w0.heap.size,1,none⟩):=by rw[s.out];exact eP _ _ _ (by have:=b0.out;omega)
 have B:D.eval (.tmp 33)=.slice (some ⟨f,0,none⟩) (k+1) g:=by rw[s.out,bE _ _ _ _ (by decide)];exact B
 clear s;refine wpAny_all (rs:=[17]) (by kernel_rfl) (by simp) (fun i d=>?_);obtain rfl:i=17:=by simpa using d
 refine wpOp_step (o:={ dst:=none,op:=Op.store 53 (Operand.tmp 35) (Operand.tmp 33),type:=0,pos:= "world.go:231",after:=#[{ on:=16,ground:=Ground.data },{ on:=14,ground:=Ground.data },{ on:=14,ground:=Ground.chain },{ on:=0,ground:=Ground.phase },{ on:=1,ground:=Ground.phase },{ on:=2,ground:=Ground.phase },{ on:=3,ground:=Ground.phase },{ on:=4,ground:=Ground.phase },{ on:=5,ground:=Ground.phase },{ on:=6,ground:=Ground.phase },{ on:=7,ground:=Ground.phase },{ on:=8,ground:=Ground.phase },{ on:=9,ground:=Ground.phase },{ on:=10,ground:=Ground.phase },{ on:=11,ground:=Ground.phase },{ on:=12,ground:=Ground.phase },{ on:=13,ground:=Ground.phase },{ on:=14,ground:=Ground.phase }],guard:=none }) rfl (fun n e=>?_);have b6:=aZ b3;have b7:=aZ B;obtain⟨b8,b9⟩:=a6.out;have l:=hid e;clear e d
 go_simp
 refine l _ _ ?_;exact wpAny_done (by kernel_rfl) (c.q _ _ _ _ m6 a5) _
theorem aiE(H:NwH Q a0 w0 wr W W3 C nv K aw cap k zs)(h:NwB a0 W w1 w a nv w0.heap.size k W3.heap.size false 3 t mm gn gs gb ls dn):wpAny prog .any dg Q 5 #[true,true,true,true,false,true,true,true,true,true,true,true,true,true,false,false,false,false] a w:=by
 refine wpAny_all (rs:=[4]) (by kernel_rfl) (by simp) (fun b c=>?_);have d:b=4:=by simpa using c
 rcases d with rfl
 ·exact pZ H h (fun f e=>xS H e)
theorem acl(H:NwH Q a0 w0 wr W W3 C nv K aw cap k zs)(h:NwB a0 W w1 w a nv w0.heap.size k W3.heap.size true 2 t mm gn gs gb ls dn):wpAny prog .any dg Q 5 #[true,true,true,true,true,true,true,true,true,true,true,true,true,false,false,false,false,false] a w:=by
 refine wpAny_all (rs:=[13]) (by kernel_rfl) (by simp) (fun b c=>?_);have d:b=13:=by simpa using c
 rcases d with rfl
 ·exact xT h (fun f g e=>xS H e)
theorem aiK(H:NwH Q a0 w0 wr W W3 C nv K aw cap k zs)(h:NwB a0 W w1 w a nv w0.heap.size k W3.heap.size false 2 t mm gn gs gb ls dn):wpAny prog .any dg Q 6 #[true,true,true,true,false,true,true,true,true,true,true,true,true,false,false,false,false,false] a w:=by
 refine wpAny_all (rs:=[4,13]) (by kernel_rfl) (by simp) (fun c d=>?_);have e:c=4∨c=13:=by simpa using d
 rcases e with rfl|rfl
 ·exact pZ H h (fun f b=>acl H b)
 ·exact xT h (fun f g b=>aiE H b)
theorem acj(H:NwH Q a0 w0 wr W W3 C nv K aw cap k zs)(h:NwB a0 W w1 w a nv w0.heap.size k W3.heap.size true 1 t mm gn gs gb ls dn):wpAny prog .any dg Q 6 #[true,true,true,true,true,true,true,true,true,true,true,true,false,false,false,false,false,false] a w:=by
 refine wpAny_all (rs:=[12]) (by kernel_rfl) (by simp) (fun b c=>?_);have d:b=12:=by simpa using c
 rcases d with rfl
 ·exact xW h (fun f g e=>acl H e)
theorem ahG(H:NwH Q a0 w0 wr W W3 C nv K aw cap k zs)(h:NwB a0 W w1 w a nv w0.heap.size k W3.heap.size false 1 t mm gn gs gb ls dn):wpAny prog .any dg Q 7 #[true,true,true,true,false,true,true,true,true,true,true,true,false,false,false,false,false,false] a w:=by
 refine wpAny_all (rs:=[4,12]) (by kernel_rfl) (by simp) (fun c d=>?_);have e:c=4∨c=12:=by simpa using d
 rcases e with rfl|rfl
 ·exact pZ H h (fun f b=>acj H b)
 ·exact xW h (fun f g b=>aiK H b)
theorem oQ(H:NwH Q a0 w0 wr W W3 C nv K aw cap k zs)(h:NwI a0 W w a nv w0.heap.size k W3.heap.size true true true true t mm gn gs gb ls dn):wpAny prog .any dg Q 7 #[true,true,true,true,true,true,true,true,true,true,true,false,false,false,false,false,false,false] a w:=by
 refine wpAny_all (rs:=[11]) (by kernel_rfl) (by simp) (fun b c=>?_);have d:b=11:=by simpa using c
 rcases d with rfl
 ·exact sI h (fun f e=>acj H e)
theorem rT(H:NwH Q a0 w0 wr W W3 C nv K aw cap k zs)(h:NwI a0 W w a nv w0.heap.size k W3.heap.size false true true true t mm gn gs gb ls dn):wpAny prog .any dg Q 8 #[true,true,true,true,false,true,true,true,true,true,true,false,false,false,false,false,false,false] a w:=by
 refine wpAny_all (rs:=[4,11]) (by kernel_rfl) (by simp) (fun c d=>?_);have e:c=4∨c=11:=by simpa using d
 rcases e with rfl|rfl
 ·exact iJ h (H.cell h.bel) (fun f b=>oQ H b)
 ·exact sI h (fun f b=>ahG H b)
theorem rS(H:NwH Q a0 w0 wr W W3 C nv K aw cap k zs)(h:NwI a0 W w a nv w0.heap.size k W3.heap.size true false true true t mm gn gs gb ls dn):wpAny prog .any dg Q 8 #[true,true,true,true,true,true,true,false,true,true,true,false,false,false,false,false,false,false] a w:=by
 refine wpAny_all (rs:=[7]) (by kernel_rfl) (by simp) (fun b c=>?_);have d:b=7:=by simpa using c
 rcases d with rfl
 ·exact iG h H.rp (fun f g _ _ _ _ _ e=>oQ H e)
theorem rO(H:NwH Q a0 w0 wr W W3 C nv K aw cap k zs)(h:NwI a0 W w a nv w0.heap.size k W3.heap.size true true false true t mm gn gs gb ls dn):wpAny prog .any dg Q 8 #[true,true,true,true,true,true,true,true,true,false,true,false,false,false,false,false,false,false] a w:=by
 refine wpAny_all (rs:=[9]) (by kernel_rfl) (by simp) (fun b c=>?_);have d:b=9:=by simpa using c
 rcases d with rfl
 ·exact iF h (fun f g _ e=>oQ H e)
theorem rQ(H:NwH Q a0 w0 wr W W3 C nv K aw cap k zs)(h:NwI a0 W w a nv w0.heap.size k W3.heap.size true true true false t mm gn gs gb ls dn):wpAny prog .any dg Q 8 #[true,true,true,true,true,true,true,true,true,true,false,false,false,false,false,false,false,false] a w:=by
 refine wpAny_all (rs:=[10]) (by kernel_rfl) (by simp) (fun b c=>?_);have d:b=10:=by simpa using c
 rcases d with rfl
 ·exact iz h (fun f g _ e=>oQ H e)
theorem xZ(H:NwH Q a0 w0 wr W W3 C nv K aw cap k zs)(h:NwI a0 W w a nv w0.heap.size k W3.heap.size false false true true t mm gn gs gb ls dn):wpAny prog .any dg Q 9 #[true,true,true,true,false,true,true,false,true,true,true,false,false,false,false,false,false,false] a w:=by
 refine wpAny_all (rs:=[4,7]) (by kernel_rfl) (by simp) (fun c d=>?_);have e:c=4∨c=7:=by simpa using d
 rcases e with rfl|rfl
 ·exact iJ h (H.cell h.bel) (fun f b=>rS H b)
 ·exact iG h H.rp (fun f g _ _ _ _ _ b=>rT H b)
theorem xr(H:NwH Q a0 w0 wr W W3 C nv K aw cap k zs)(h:NwI a0 W w a nv w0.heap.size k W3.heap.size false true false true t mm gn gs gb ls dn):wpAny prog .any dg Q 9 #[true,true,true,true,false,true,true,true,true,false,true,false,false,false,false,false,false,false] a w:=by
 refine wpAny_all (rs:=[4,9]) (by kernel_rfl) (by simp) (fun c d=>?_);have e:c=4∨c=9:=by simpa using d
 rcases e with rfl|rfl
 ·exact iJ h (H.cell h.bel) (fun f b=>rO H b)
 ·exact iF h (fun f g _ b=>rT H b)
theorem x6(H:NwH Q a0 w0 wr W W3 C nv K aw cap k zs)(h:NwI a0 W w a nv w0.heap.size k W3.heap.size false true true false t mm gn gs gb ls dn):wpAny prog .any dg Q 9 #[true,true,true,true,false,true,true,true,true,true,false,false,false,false,false,false,false,false] a w:=by
 refine wpAny_all (rs:=[4,10]) (by kernel_rfl) (by simp) (fun c d=>?_);have e:c=4∨c=10:=by simpa using d
 rcases e with rfl|rfl
 ·exact iJ h (H.cell h.bel) (fun f b=>rQ H b)
 ·exact iz h (fun f g _ b=>rT H b)
theorem xY(H:NwH Q a0 w0 wr W W3 C nv K aw cap k zs)(h:NwI a0 W w a nv w0.heap.size k W3.heap.size true false false true t mm gn gs gb ls dn):wpAny prog .any dg Q 9 #[true,true,true,true,true,true,true,false,true,false,true,false,false,false,false,false,false,false] a w:=by
 refine wpAny_all (rs:=[7,9]) (by kernel_rfl) (by simp) (fun c d=>?_);have e:c=7∨c=9:=by simpa using d
 rcases e with rfl|rfl
 ·exact iG h H.rp (fun f g _ _ _ _ _ b=>rO H b)
 ·exact iF h (fun f g _ b=>rS H b)
theorem ym(H:NwH Q a0 w0 wr W W3 C nv K aw cap k zs)(h:NwI a0 W w a nv w0.heap.size k W3.heap.size true false true false t mm gn gs gb ls dn):wpAny prog .any dg Q 9 #[true,true,true,true,true,true,true,false,true,true,false,false,false,false,false,false,false,false] a w:=by
 refine wpAny_all (rs:=[7,10]) (by kernel_rfl) (by simp) (fun c d=>?_);have e:c=7∨c=10:=by simpa using d
 rcases e with rfl|rfl
 ·exact iG h H.rp (fun f g _ _ _ _ _ b=>rQ H b)
 ·exact iz h (fun f g _ b=>rS H b)
theorem xw(H:NwH Q a0 w0 wr W W3 C nv K aw cap k zs)(h:NwI a0 W w a nv w0.heap.size k W3.heap.size true true false false t mm gn gs gb ls dn):wpAny prog .any dg Q 9 #[true,true,true,true,true,true,true,true,true,false,false,false,false,false,false,false,false,false] a w:=by
 refine wpAny_all (rs:=[9,10]) (by kernel_rfl) (by simp) (fun c d=>?_);have e:c=9∨c=10:=by simpa using d
 rcases e with rfl|rfl
 ·exact iF h (fun f g _ b=>rQ H b)
 ·exact iz h (fun f g _ b=>rO H b)
theorem agY(H:NwH Q a0 w0 wr W W3 C nv K aw cap k zs)(h:NwI a0 W w a nv w0.heap.size k W3.heap.size false false false true t mm gn gs gb ls dn):wpAny prog .any dg Q 10 #[true,true,true,true,false,true,true,false,true,false,true,false,false,false,false,false,false,false] a w:=by
 refine wpAny_all (rs:=[4,7,9]) (by kernel_rfl) (by simp) (fun c e=>?_);have f:c=4∨c=7∨c=9:=by simpa using e
 rcases f with rfl|rfl|rfl
 ·exact iJ h (H.cell h.bel) (fun d b=>xY H b)
 ·exact iG h H.rp (fun d g _ _ _ _ _ b=>xr H b)
 ·exact iF h (fun d g _ b=>xZ H b)
theorem agI(H:NwH Q a0 w0 wr W W3 C nv K aw cap k zs)(h:NwI a0 W w a nv w0.heap.size k W3.heap.size false false true false t mm gn gs gb ls dn):wpAny prog .any dg Q 10 #[true,true,true,true,false,true,true,false,true,true,false,false,false,false,false,false,false,false] a w:=by
 refine wpAny_all (rs:=[4,7,10]) (by kernel_rfl) (by simp) (fun c e=>?_);have f:c=4∨c=7∨c=10:=by simpa using e
 rcases f with rfl|rfl|rfl
 ·exact iJ h (H.cell h.bel) (fun d b=>ym H b)
 ·exact iG h H.rp (fun d g _ _ _ _ _ b=>x6 H b)
 ·exact iz h (fun d g _ b=>xZ H b)
theorem afU(H:NwH Q a0 w0 wr W W3 C nv K aw cap k zs)(h:NwI a0 W w a nv w0.heap.size k W3.heap.size false true false false t mm gn gs gb ls dn):wpAny prog .any dg Q 10 #[true,true,true,true,false,true,true,true,true,false,false,false,false,false,false,false,false,false] a w:=by
 refine wpAny_all (rs:=[4,9,10]) (by kernel_rfl) (by simp) (fun c e=>?_);have f:c=4∨c=9∨c=10:=by simpa using e
 rcases f with rfl|rfl|rfl
 ·exact iJ h (H.cell h.bel) (fun d b=>xw H b)
 ·exact iF h (fun d g _ b=>x6 H b)
 ·exact iz h (fun d g _ b=>xr H b)
theorem ahd(H:NwH Q a0 w0 wr W W3 C nv K aw cap k zs)(h:NwI a0 W w a nv w0.heap.size k W3.heap.size true false false false t mm gn gs gb ls dn):wpAny prog .any dg Q 10 #[true,true,true,true,true,true,true,false,true,false,false,false,false,false,false,false,false,false] a w:=by
 refine wpAny_all (rs:=[7,9,10]) (by kernel_rfl) (by simp) (fun c f=>?_);have g:c=7∨c=9∨c=10:=by simpa using f
 rcases g with rfl|rfl|rfl
 ·exact iG h H.rp (fun d e _ _ _ _ _ b=>xw H b)
 ·exact iF h (fun d e _ b=>ym H b)
 ·exact iz h (fun d e _ b=>xY H b)
theorem afZ(H:NwH Q a0 w0 wr W W3 C nv K aw cap k zs)(h:NwI a0 W w a nv w0.heap.size k W3.heap.size false false false false t mm gn gs gb ls dn):wpAny prog .any dg Q 11 #[true,true,true,true,false,true,true,false,true,false,false,false,false,false,false,false,false,false] a w:=by
 refine wpAny_all (rs:=[4,7,9,10]) (by kernel_rfl) (by simp) (fun c f=>?_);have g:c=4∨c=7∨c=9∨c=10:=by simpa using f
 rcases g with rfl|rfl|rfl|rfl
 ·exact iJ h (H.cell h.bel) (fun d b=>ahd H b)
 ·exact iG h H.rp (fun d e _ _ _ _ _ b=>afU H b)
 ·exact iF h (fun d e _ b=>agI H b)
 ·exact iz h (fun d e _ b=>agY H b)
end
section
variable {Q:Exit→Act→World→Prop} {a0:Act} {w0 wr W W3:World} {C:Nat→Nat} {nv:Value} {K:Nat→RB} {aw:Option Addr} {cap k:Nat} {zs:List Int}
theorem act(H:NwH Q a0 w0 wr W W3 C nv K aw cap k zs)(G:a0.tmps.size=37)(b:a0.eval (.tmp 3)=.pointer (some ⟨w0.heap.size,0,none⟩))(d:a0.eval (.tmp 4)=.int .i64 (k:Int))(c:a0.eval (.tmp 5)=.pointer (some ⟨W3.heap.size,0,none⟩)):(Code.region 6 dg true).wp prog Q a0 W:=by
 have B:=hid H.qp;have S:=hid H;have I:=hid G;have HZ:=hid G;have T:Sm a0 a0:=⟨rfl,rfl,fun _ _=>rfl⟩;refine wp_region_any (by kernel_rfl) ?_;clear H G;refine wpAny_take (i:=0) (oi:={ dst:=some 19,op:=Op.move (Operand.tmp 3),type:=40,pos:= "world.go:231",after:=#[],guard:=none }) (v:=(pV w0.heap.size)) rfl (by kernel_rfl) (by kernel_rfl) (by kernel_rfl) (fun g h a i=>B g _ _ h a i) (Or.inl ⟨by rfl,?_⟩) ?_
 ·intro a
  have E:=aZ b
  go_simp
 change wpAny _ _ _ _ _ _ (Act.put a0 (some 19) (pV w0.heap.size)) _;obtain⟨x,A⟩:=nmb (Act.put a0 (some 19) (pV w0.heap.size));rw[<-A.out];have L:Hid (x.tmps.size=37):=by show x.tmps.size=37;rw[A.out,Act.size_put];exact I
 have U:Sm a0 x:=by rw[A.out];exact T.put (by omega) (by omega)
 have b:x.eval (.tmp 3)=(pV w0.heap.size):=by rw[A.out,bE _ _ _ _ (by decide)];exact b
 have d:x.eval (.tmp 4)=(iV (k:Int)):=by rw[A.out,bE _ _ _ _ (by decide)];exact d
 have c:x.eval (.tmp 5)=(pV W3.heap.size):=by rw[A.out,bE _ _ _ _ (by decide)];exact c
 have l:x.eval (.tmp 19)=(pV w0.heap.size):=by rw[A.out];exact eP _ _ _ (by have:=I.out;omega)
 clear A;refine wpAny_take (i:=1) (oi:={ dst:=some 20,op:=Op.move (Operand.tmp 3),type:=40,pos:= "world.go:231",after:=#[],guard:=none }) (v:=(pV w0.heap.size)) rfl (by kernel_rfl) (by kernel_rfl) (by kernel_rfl) (fun g h a i=>B g _ _ h a i) (Or.inl ⟨by rfl,?_⟩) ?_
 ·intro a
  have E:=aZ b
  go_simp
 change wpAny _ _ _ _ _ _ (Act.put x (some 20) (pV w0.heap.size)) _;obtain⟨v,y⟩:=nmb (Act.put x (some 20) (pV w0.heap.size));rw[<-y.out];have M:Hid (v.tmps.size=37):=by show v.tmps.size=37;rw[y.out,Act.size_put];exact L
 have V:Sm a0 v:=by rw[y.out];exact U.put (by omega) (by omega)
 have b:v.eval (.tmp 3)=(pV w0.heap.size):=by rw[y.out,bE _ _ _ _ (by decide)];exact b
 have d:v.eval (.tmp 4)=(iV (k:Int)):=by rw[y.out,bE _ _ _ _ (by decide)];exact d
 have c:v.eval (.tmp 5)=(pV W3.heap.size):=by rw[y.out,bE _ _ _ _ (by decide)];exact c
 have l:v.eval (.tmp 19)=(pV w0.heap.size):=by rw[y.out,bE _ _ _ _ (by decide)];exact l
 have s:v.eval (.tmp 20)=(pV w0.heap.size):=by rw[y.out];exact eP _ _ _ (by have:=L.out;omega)
 clear y;refine wpAny_take (i:=2) (oi:={ dst:=some 21,op:=Op.nilCheck (Operand.tmp 20),type:=0,pos:= "world.go:231",after:=#[{ on:=1,ground:=Ground.data }],guard:=none }) (v:=(pV w0.heap.size)) rfl (by kernel_rfl) (by kernel_rfl) (by kernel_rfl) (fun g h a i=>B g _ _ h a i) (Or.inl ⟨by rfl,?_⟩) ?_
 ·intro a
  have E:=aZ s
  go_simp
 change wpAny _ _ _ _ _ _ (Act.put v (some 21) (pV w0.heap.size)) _;obtain⟨t,w⟩:=nmb (Act.put v (some 21) (pV w0.heap.size));rw[<-w.out];have N:Hid (t.tmps.size=37):=by show t.tmps.size=37;rw[w.out,Act.size_put];exact M
 have X:Sm a0 t:=by rw[w.out];exact V.put (by omega) (by omega)
 have b:t.eval (.tmp 3)=(pV w0.heap.size):=by rw[w.out,bE _ _ _ _ (by decide)];exact b
 have d:t.eval (.tmp 4)=(iV (k:Int)):=by rw[w.out,bE _ _ _ _ (by decide)];exact d
 have c:t.eval (.tmp 5)=(pV W3.heap.size):=by rw[w.out,bE _ _ _ _ (by decide)];exact c
 have l:t.eval (.tmp 19)=(pV w0.heap.size):=by rw[w.out,bE _ _ _ _ (by decide)];exact l
 have s:t.eval (.tmp 20)=(pV w0.heap.size):=by rw[w.out,bE _ _ _ _ (by decide)];exact s
 have z:t.eval (.tmp 21)=(pV w0.heap.size):=by rw[w.out];exact eP _ _ _ (by have:=M.out;omega)
 clear w;refine wpAny_take (i:=3) (oi:={ dst:=some 22,op:=Op.fieldAddr 58 (Operand.tmp 21) 1,type:=0,pos:= "world.go:231",after:=#[{ on:=2,ground:=Ground.data }],guard:=none }) (v:=(.pointer (some ⟨w0.heap.size,1,none⟩))) rfl (by kernel_rfl) (by kernel_rfl) (by kernel_rfl) (fun g h a i=>B g _ _ h a i) (Or.inl ⟨by rfl,?_⟩) ?_
 ·intro a
  have E:=aZ z
  go_simp
 change wpAny _ _ _ _ _ _ (Act.put t (some 22) (.pointer (some ⟨w0.heap.size,1,none⟩))) _;obtain⟨q,u⟩:=nmb (Act.put t (some 22) (.pointer (some ⟨w0.heap.size,1,none⟩)));rw[<-u.out];have O:Hid (q.tmps.size=37):=by show q.tmps.size=37;rw[u.out,Act.size_put];exact N
 have Y:Sm a0 q:=by rw[u.out];exact X.put (by omega) (by omega)
 have b:q.eval (.tmp 3)=(pV w0.heap.size):=by rw[u.out,bE _ _ _ _ (by decide)];exact b
 have d:q.eval (.tmp 4)=(iV (k:Int)):=by rw[u.out,bE _ _ _ _ (by decide)];exact d
 have c:q.eval (.tmp 5)=(pV W3.heap.size):=by rw[u.out,bE _ _ _ _ (by decide)];exact c
 have l:q.eval (.tmp 19)=(pV w0.heap.size):=by rw[u.out,bE _ _ _ _ (by decide)];exact l
 have s:q.eval (.tmp 20)=(pV w0.heap.size):=by rw[u.out,bE _ _ _ _ (by decide)];exact s
 have z:q.eval (.tmp 21)=(pV w0.heap.size):=by rw[u.out,bE _ _ _ _ (by decide)];exact z
 have D:q.eval (.tmp 22)=(.pointer (some ⟨w0.heap.size,1,none⟩)):=by rw[u.out];exact eP _ _ _ (by have:=N.out;omega)
 clear u;refine wpAny_take (i:=5) (oi:={ dst:=some 24,op:=Op.move (Operand.tmp 4),type:=3,pos:= "world.go:231",after:=#[],guard:=none }) (v:=(iV (k:Int))) rfl (by kernel_rfl) (by kernel_rfl) (by kernel_rfl) (fun g h a i=>B g _ _ h a i) (Or.inl ⟨by rfl,?_⟩) ?_
 ·intro a
  have E:=aZ d
  go_simp
 change wpAny _ _ _ _ _ _ (Act.put q (some 24) (iV (k:Int))) _;obtain⟨m,r⟩:=nmb (Act.put q (some 24) (iV (k:Int)));rw[<-r.out];have P:Hid (m.tmps.size=37):=by show m.tmps.size=37;rw[r.out,Act.size_put];exact O
 have Z:Sm a0 m:=by rw[r.out];exact Y.put (by omega) (by omega)
 have b:m.eval (.tmp 3)=(pV w0.heap.size):=by rw[r.out,bE _ _ _ _ (by decide)];exact b
 have d:m.eval (.tmp 4)=(iV (k:Int)):=by rw[r.out,bE _ _ _ _ (by decide)];exact d
 have c:m.eval (.tmp 5)=(pV W3.heap.size):=by rw[r.out,bE _ _ _ _ (by decide)];exact c
 have l:m.eval (.tmp 19)=(pV w0.heap.size):=by rw[r.out,bE _ _ _ _ (by decide)];exact l
 have s:m.eval (.tmp 20)=(pV w0.heap.size):=by rw[r.out,bE _ _ _ _ (by decide)];exact s
 have z:m.eval (.tmp 21)=(pV w0.heap.size):=by rw[r.out,bE _ _ _ _ (by decide)];exact z
 have D:m.eval (.tmp 22)=(.pointer (some ⟨w0.heap.size,1,none⟩)):=by rw[r.out,bE _ _ _ _ (by decide)];exact D
 have F:m.eval (.tmp 24)=(iV (k:Int)):=by rw[r.out];exact eP _ _ _ (by have:=O.out;omega)
 clear r;refine wpAny_take (i:=6) (oi:={ dst:=some 25,op:=Op.move (Operand.tmp 5),type:=59,pos:= "world.go:231",after:=#[],guard:=none }) (v:=(pV W3.heap.size)) rfl (by kernel_rfl) (by kernel_rfl) (by kernel_rfl) (fun g h a i=>B g _ _ h a i) (Or.inl ⟨by rfl,?_⟩) ?_
 ·intro a
  have E:=aZ c
  go_simp
 change wpAny _ _ _ _ _ _ (Act.put m (some 25) (pV W3.heap.size)) _;obtain⟨e,n⟩:=nmb (Act.put m (some 25) (pV W3.heap.size));rw[<-n.out];have R:Hid (e.tmps.size=37):=by show e.tmps.size=37;rw[n.out,Act.size_put];exact P
 have m6:Sm a0 e:=by rw[n.out];exact Z.put (by omega) (by omega)
 have b:e.eval (.tmp 3)=(pV w0.heap.size):=by rw[n.out,bE _ _ _ _ (by decide)];exact b
 have d:e.eval (.tmp 4)=(iV (k:Int)):=by rw[n.out,bE _ _ _ _ (by decide)];exact d
 have c:e.eval (.tmp 5)=(pV W3.heap.size):=by rw[n.out,bE _ _ _ _ (by decide)];exact c
 have l:e.eval (.tmp 19)=(pV w0.heap.size):=by rw[n.out,bE _ _ _ _ (by decide)];exact l
 have s:e.eval (.tmp 20)=(pV w0.heap.size):=by rw[n.out,bE _ _ _ _ (by decide)];exact s
 have z:e.eval (.tmp 21)=(pV w0.heap.size):=by rw[n.out,bE _ _ _ _ (by decide)];exact z
 have D:e.eval (.tmp 22)=(.pointer (some ⟨w0.heap.size,1,none⟩)):=by rw[n.out,bE _ _ _ _ (by decide)];exact D
 have F:e.eval (.tmp 24)=(iV (k:Int)):=by rw[n.out,bE _ _ _ _ (by decide)];exact F
 have J:e.eval (.tmp 25)=(pV W3.heap.size):=by rw[n.out];exact eP _ _ _ (by have:=P.out;omega)
 clear n;refine wpAny_take (i:=8) (oi:={ dst:=some 27,op:=Op.move (Operand.tmp 5),type:=59,pos:= "world.go:231",after:=#[],guard:=none }) (v:=(pV W3.heap.size)) rfl (by kernel_rfl) (by kernel_rfl) (by kernel_rfl) (fun g h a i=>B g _ _ h a i) (Or.inl ⟨by rfl,?_⟩) ?_
 ·intro a
  have E:=aZ c
  go_simp
 change wpAny _ _ _ _ _ _ (Act.put e (some 27) (pV W3.heap.size)) _;obtain⟨o,f⟩:=nmb (Act.put e (some 27) (pV W3.heap.size));rw[<-f.out];have a2:Hid (o.tmps.size=37):=by show o.tmps.size=37;rw[f.out,Act.size_put];exact R
 have m7:Sm a0 o:=by rw[f.out];exact m6.put (by omega) (by omega)
 have b:o.eval (.tmp 3)=(pV w0.heap.size):=by rw[f.out,bE _ _ _ _ (by decide)];exact b
 have d:o.eval (.tmp 4)=(iV (k:Int)):=by rw[f.out,bE _ _ _ _ (by decide)];exact d
 have c:o.eval (.tmp 5)=(pV W3.heap.size):=by rw[f.out,bE _ _ _ _ (by decide)];exact c
 have l:o.eval (.tmp 19)=(pV w0.heap.size):=by rw[f.out,bE _ _ _ _ (by decide)];exact l
 have s:o.eval (.tmp 20)=(pV w0.heap.size):=by rw[f.out,bE _ _ _ _ (by decide)];exact s
 have z:o.eval (.tmp 21)=(pV w0.heap.size):=by rw[f.out,bE _ _ _ _ (by decide)];exact z
 have D:o.eval (.tmp 22)=(.pointer (some ⟨w0.heap.size,1,none⟩)):=by rw[f.out,bE _ _ _ _ (by decide)];exact D
 have F:o.eval (.tmp 24)=(iV (k:Int)):=by rw[f.out,bE _ _ _ _ (by decide)];exact F
 have J:o.eval (.tmp 25)=(pV W3.heap.size):=by rw[f.out,bE _ _ _ _ (by decide)];exact J
 have a1:o.eval (.tmp 27)=(pV W3.heap.size):=by rw[f.out];exact eP _ _ _ (by have:=R.out;omega)
 clear f;exact afZ (t:=0) (mm:=0) (gn:=0) (gs:=0) (gb:=0) (ls:=0) (dn:=0) S ⟨m7,I,l,D,F,J,a1,(Below.refl _ W).drew,fun p=>(by cases p),fun p=>(by cases p),fun p=>(by cases p),fun p=>(by cases p),fun p=>(by cases p),fun p=>(by cases p),fun p=>(by cases p)⟩
end
end Go.Proofs.YtaehdgemkafinaaGreatDoor
