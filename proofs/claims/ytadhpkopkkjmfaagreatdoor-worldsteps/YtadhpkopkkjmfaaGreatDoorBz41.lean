/-
  On the way to WStepsProof: XA XB XC XD.
-/
import Derived.Test.YtadhpkopkkjmfaaGreatDoorBz36
import Derived.Test.YtadhpkopkkjmfaaGreatDoorBz40
import Derived.Test.YtadhpkopkkjmfaaGreatDoorBz39
set_option maxHeartbeats 8000000
set_option maxRecDepth 100000
namespace Go.Proofs.YtadhpkopkkjmfaaGreatDoor
open Go.RowKit
structure RB where
 nd:Nat
 t:Nat
 m:Nat
 gn:Nat
 gs:Nat
 gb:Nat
 r:Nat
 ls:Nat
 dn:Nat
 lb:Nat→Nat
 vh:Nat→Value
def rldV (K:RB) (N:PN) (d:Nat):Value:=match N.ld d with
 | none=>.pointer none
 | some _=>.pointer (some ⟨K.lb d,0,none⟩)
theorem rldV_none {K:RB} {N:PN} {d:Nat} (h:N.ld d=none):rldV K N d=.pointer none:=by unfold rldV; rw [h]
theorem rldV_some {K:RB} {N:PN} {d:Nat} {x:Int×PL} (h:N.ld d=some x):rldV K N d=.pointer (some ⟨K.lb d,0,none⟩):=by unfold rldV; rw [h]
def rsV (K:RB) (N:PN):Value:=if upN N=true then .pointer (some ⟨K.t,0,none⟩) else .pointer none
def rndC (K:RB) (N:PN):List Value:=[rsV K N,.pointer (some ⟨K.r,0,none⟩),.slice (some ⟨K.ls,0,none⟩) 6 6,.slice (some ⟨K.dn,0,none⟩) 6 6]
structure RN (w:World) (C:Nat→Nat) (K:RB) (i n cap:Nat) (aw:Option Addr) (N:PN):Prop where
 row:w.heap[K.nd]? = some (.cells (rndC K N).toArray 157 (0,0))
 pl:∃ off l' cuts,RP w K.r N.B off l' cuts∧Lk N.l off l' cuts
 up:upN N=true→RK w K.m K.gn K.gs K.r (dlN N) N.over N.B N.l∧RSt w K.t K.m K.gb (i:Int) N.R
 lrow:w.heap[K.ls]? = some (.cells #[rldV K N 0,rldV K N 1,rldV K N 2,rldV K N 3,rldV K N 4,rldV K N 5] 188 (0,0))
 drow:VR w K.dn (fun d=>finB (stN N d).ph)
 lds:∀ d,d<6→∀ x,N.ld d=some x→∃ L:LSt,Rel n x.1 x.2 L∧RLd w (K.lb d) i n cap (d:Int) x.1 aw (stB L.stt) L.wait (K.vh d) L.hs L.ph L.seen
 cn:C K.nd=100 * i+1
 cr:C K.r=100 * i+7
 cl:C K.ls=100 * i+8
 cd:C K.dn=100 * i+9
 cu:upN N=true→C K.t=100 * i+2∧C K.m=100 * i+3∧C K.gn=100 * i+4∧C K.gs=100 * i+5∧C K.gb=100 * i+6
 ce:∀ d,d<6→∀ x,N.ld d=some x→C (K.lb d)=100 * i+10+d∧∀ g,(K.vh d).ownBlock=some g→C g=100 * i+20+d
section
variable {w w':World} {C C':Nat→Nat} {K:RB} {i n cap:Nat} {aw:Option Addr} {N:PN}
theorem RLd.kept {S:Nat→Prop} {lb id:Nat} {deal att:Int} {st:ByteArray} {wait:Int} {vh:Value} {hs:List F9} {ph seen:Int} (h:RLd w lb id n cap deal att aw st wait vh hs ph seen) (k:Kept S w w') (h1:¬ S lb) (h2:∀ g,vh.ownBlock=some g→¬ S g):RLd w' lb id n cap deal att aw st wait vh hs ph seen :=
 ⟨k.row h.row h1,own_kept h.own k h2⟩
theorem RN.kept {S:Nat→Prop} (h:RN w C K i n cap aw N) (k:Kept S w w') (hS:∀ x,C x / 100=i→¬ S x):RN w' C K i n cap aw N:=by
 have e1:=h.cn; have e2:=h.cr; have e3:=h.cl; have e4:=h.cd
 obtain ⟨off,l',cuts,p1,p2⟩:=h.pl
 refine ⟨k.row h.row (hS _ (by omega)),⟨off,l',cuts,p1.kept k (hS _ (by omega)),p2⟩,fun hu=>?_,k.row h.lrow (hS _ (by omega)),k.row h.drow (hS _ (by omega)),fun d hd x hx=>?_,h.cn,h.cr,h.cl,h.cd,h.cu,h.ce⟩
 ·obtain ⟨c1,c2,c3,c4,c5⟩:=h.cu hu
  obtain ⟨u1,u2⟩:=h.up hu
  exact ⟨u1.kept k (hS _ (by omega)) (hS _ (by omega)) (hS _ (by omega)) (hS _ (by omega)),u2.kept k (hS _ (by omega)) (hS _ (by omega))⟩
 ·obtain ⟨L,r1,r2⟩:=h.lds d hd x hx
  obtain ⟨c1,c2⟩:=h.ce d hd x hx
  exact ⟨L,r1,r2.kept k (hS _ (by omega)) (fun g hg=>hS g (by have:=c2 g hg; omega))⟩
theorem RN.later (h:RN w C K i n cap aw N) (hb:Below w.heap.size w w'):RN w' C K i n cap aw N :=
 h.kept (S:=fun _=>False) (Kept.of_below hb) (fun _ _ x=>x)
theorem RN.col (h:RN w C K i n cap aw N) (hC:∀ x,x<w.heap.size→C' x=C x):RN w C' K i n cap aw N:=by
 obtain ⟨off,l',cuts,p1,p2⟩:=h.pl
 refine ⟨h.row,⟨off,l',cuts,p1,p2⟩,h.up,h.lrow,h.drow,h.lds,(hC _ (row_ltJ h.row)).trans h.cn,(hC _ (row_ltJ p1)).trans h.cr,(hC _ (row_ltJ h.lrow)).trans h.cl,(hC _ (row_ltJ h.drow)).trans h.cd,fun hu=>?_,fun d hd x hx=>?_⟩
 ·obtain ⟨c1,c2,c3,c4,c5⟩:=h.cu hu
  obtain ⟨u1,u2⟩:=h.up hu
  obtain ⟨t1,t2,t3,-⟩:=u1.lts
  exact ⟨(hC _ (row_ltJ u2.row)).trans c1,(hC _ t1).trans c2,(hC _ t2).trans c3,(hC _ t3).trans c4,(hC _ (row_ltJ u2.refs)).trans c5⟩
 ·obtain ⟨L,r1,r2⟩:=h.lds d hd x hx
  obtain ⟨c1,c2⟩:=h.ce d hd x hx
  exact ⟨(hC _ (row_ltJ r2.row)).trans c1,fun g hg=>(hC _ ((r2.own.lt g hg).2)).trans (c2 g hg)⟩
end
def twoL (x:Nat×Nat):List Value:=[.int .i64 (x.1:Int),.int .i64 (x.2:Int)]
def twoCells (L:List (Nat×Nat)):List Value:=L.flatMap twoL
structure YB where
 xb:Nat
 nb:Nat
 nc:Nat
 bv:Value
 fv:Value
 ev:Value
 K:Nat→RB
def rwC (Y:YB) (aw:Option Addr) (n cap:Nat):List Value:=[.slice aw n cap,.slice (some ⟨Y.nb,0,none⟩) n Y.nc,Y.bv,Y.fv,Y.ev]
def BrkI (V:PX) (L:List (Nat×Nat)):Prop:=(∀ a b,a<7→b<7→a≠b→(brX V a b=true ↔ (a,b)∈L ∨ (b,a)∈L))∧∀ x,x∈L→x.1≠x.2
structure RW (w0 w:World) (C:Nat→Nat) (Y:YB) (aw:Option Addr) (cap:Nat) (zs:List Int) (V:PX) (m:Nat):Prop where
 bel:Below w0.heap.size w0 w
 row:w.heap[Y.xb]? = some (.cells (rwC Y aw zs.length cap).toArray 147 (0,0))
 ws:IsSl w0 (.slice aw zs.length cap) zs
 ns:∀ i,i<zs.length→w.cell? ⟨Y.nb,i,none⟩=some (.pointer (some ⟨(Y.K i).nd,0,none⟩))
 nds:∀ i,i<zs.length→RN w C (Y.K i) i zs.length cap aw (V.nd i)
 brk:∃ L,w.ownsRow w0.heap.size 200 2 Y.bv L.length (twoCells L)∧BrkI V L∧L.length≤m
 fly:w.ownsRow w0.heap.size 104 9 Y.fv V.fly.length (frCells V.fly)
 evs:w.ownsRow w0.heap.size 121 3 Y.ev V.evs.length (evCells V.evs)
 cx:C Y.xb=1001
 cn:C Y.nb=1003
 cb:∀ g,Y.bv.ownBlock=some g→C g=1004
 cf:∀ g,Y.fv.ownBlock=some g→C g=1005
 ce:∀ g,Y.ev.ownBlock=some g→C g=1006
 lt:∀ x,C x<2000→x<w.heap.size
 low:∀ x,C x<2000→w0.heap.size≤x
 inv:XI zs V m
section
variable {w0 w w':World} {C C':Nat→Nat} {Y:YB} {aw:Option Addr} {cap m:Nat} {zs:List Int} {V V':PX}
theorem RW.n7 (h:RW w0 w C Y aw cap zs V m):1≤zs.length∧zs.length≤7:=⟨(errW_zero h.inv.he).1,(errW_zero h.inv.he).2.1⟩
theorem RW.later (h:RW w0 w C Y aw cap zs V m) (hb:Below w.heap.size w w'):RW w0 w' C Y aw cap zs V m:=by
 have k:Kept (fun _=>False) w w':=Kept.of_below hb
 obtain ⟨L,b1,b2,b3⟩:=h.brk
 exact ⟨h.bel.trans (hb.mono h.bel.size),k.row h.row (fun x=>x),h.ws,fun i hi=>cell_kept (h.ns i hi) k (fun x=>x),fun i hi=>(h.nds i hi).later hb,⟨L,own_kept b1 k (fun _ _ x=>x),b2,b3⟩,own_kept h.fly k (fun _ _ x=>x),own_kept h.evs k (fun _ _ x=>x),h.cx,h.cn,h.cb,h.cf,h.ce,fun x hx=>Nat.lt_of_lt_of_le (h.lt x hx) hb.size,h.low,h.inv⟩
theorem RW.drew (h:RW w0 w C Y aw cap zs V m):RW w0 w.drew C Y aw cap zs V m:=h.later (Below.refl _ _).drew
theorem RW.cell (h:RW w0 w C Y aw cap zs V m) (j:Nat):w.cell? ⟨Y.xb,j,none⟩=(rwC Y aw zs.length cap)[j]?:=by
 rw [cell_of_row w Y.xb j _ _ _ h.row,List.getElem?_toArray]
theorem RW.cells (h:RW w0 w C Y aw cap zs V m):w.cell? ⟨Y.xb,0,none⟩=some (.slice aw zs.length cap)∧w.cell? ⟨Y.xb,1,none⟩=some (.slice (some ⟨Y.nb,0,none⟩) zs.length Y.nc)∧w.cell? ⟨Y.xb,2,none⟩=some Y.bv∧w.cell? ⟨Y.xb,3,none⟩=some Y.fv∧w.cell? ⟨Y.xb,4,none⟩=some Y.ev :=
 ⟨h.cell 0,h.cell 1,h.cell 2,h.cell 3,h.cell 4⟩
theorem RW.fz (h:RW w0 w C Y aw cap zs V m) (j:Nat):w.frozen? ⟨Y.xb,j,none⟩=false:=frozen_of_row w Y.xb j _ _ h.row
theorem RW.far {S:Nat→Prop} (h:RW w0 w C Y aw cap zs V m) (k:Kept S w w') (hS:∀ x,S x→2000≤C x) (hb:∀ x,S x→w0.heap.size≤x):RW w0 w' C Y aw cap zs V m:=by
 obtain ⟨L,b1,b2,b3⟩:=h.brk
 have n7:=h.n7
 have e1:=h.cx; have e3:=h.cn
 have no:∀ x,C x<2000→¬ S x:=fun x hx hs=>by have:=hS x hs; omega
 exact ⟨k.below h.bel.size hb h.bel,k.row h.row (no _ (by omega)),h.ws,fun i hi=>cell_kept (h.ns i hi) k (no _ (by show C Y.nb<2000; omega)),fun i hi=>(h.nds i hi).kept k (fun x hx=>no x (by omega)),⟨L,own_kept b1 k (fun g hg=>no g (by have:=h.cb g hg; omega)),b2,b3⟩,own_kept h.fly k (fun g hg=>no g (by have:=h.cf g hg; omega)),own_kept h.evs k (fun g hg=>no g (by have:=h.ce g hg; omega)),h.cx,h.cn,h.cb,h.cf,h.ce,fun x hx=>Nat.lt_of_lt_of_le (h.lt x hx) k.size,h.low,h.inv⟩
theorem RW.node {S:Nat→Prop} {i m':Nat} {N:PN} {K:RB} (h:RW w0 w C Y aw cap zs V m) (k:Kept S w w') (hi:i<zs.length) (hS:∀ x,S x→C x / 100=i) (hC:∀ x,x<w.heap.size→C' x=C x) (hl:∀ x,w.heap.size≤x→C' x<2000→x<w'.heap.size) (hN:RN w' C' K i zs.length cap aw N) (hK:K.nd=(Y.K i).nd) (hm:m≤m') (hI:XI zs (setNd V i N) m') :
  RW w0 w' C' { Y with K:=fun e=>if e=i then K else Y.K e } aw cap zs (setNd V i N) m':=by
 have n7:=h.n7.2
 have hs0:=h.bel.size
 have hlow:∀ x,S x→w0.heap.size≤x:=fun x hx=>h.low x (by have:=hS x hx; omega)
 have nS:∀ x,C x / 100≠i→¬ S x:=fun x hx hs=>hx (hS x hs)
 obtain ⟨L,b1,b2,b3⟩:=h.brk
 have cx:=h.cx; have cn:=h.cn
 have o:∀ {x c:Nat},C x=c→c<2000→C' x=c:=fun {x c} e hc=>(hC x (h.lt x (by omega))).trans e
 refine ⟨k.below h.bel.size hlow h.bel,k.row h.row (nS Y.xb (by omega)),h.ws,fun e he=>?_,fun e he=>?_,⟨L,own_kept b1 k (fun g hg=>nS g (by have:=h.cb g hg; omega)),b2,by omega⟩,own_kept h.fly k (fun g hg=>nS g (by have:=h.cf g hg; omega)),own_kept h.evs k (fun g hg=>nS g (by have:=h.ce g hg; omega)),o h.cx (by omega),o h.cn (by omega),fun g hg=>o (h.cb g hg) (by omega),fun g hg=>o (h.cf g hg) (by omega),fun g hg=>o (h.ce g hg) (by omega),fun x hx=>?_,fun x hx=>?_,hI⟩
 ·have:=cell_kept (h.ns e he) k (nS _ (by show C Y.nb / 100≠i; omega))
  rw [this]
  by_cases g:e=i
  ·subst g; simp [hK]
  ·simp [g]
 ·by_cases g:e=i
  ·subst g
   simpa [setNd] using hN
  ·have hcol:=(h.nds e he).col (C':=C') hC
   have:=hcol.kept (S:=fun x=>S x∧x<w.heap.size) (w':=w') ⟨k.os,k.tape,k.output,k.size,fun y hy hn=>k.block y hy (fun hs=>hn ⟨hs,hy⟩)⟩ (fun x hx hs=>nS x (by rw [← hC x hs.2]; omega) hs.1)
   simpa [setNd,g] using this
 ·rcases Nat.lt_or_ge x w.heap.size with q|q
  ·exact Nat.lt_of_lt_of_le q k.size
  ·exact hl x q hx
 ·rcases Nat.lt_or_ge x w.heap.size with q|q
  ·exact h.low x (by rw [← hC x q]; exact hx)
  ·omega
theorem RW.own {bv fv ev:Value} {Bk:List (Nat×Nat)} {F:List F9} {E:List E3} {m':Nat} {br:Nat→Nat→Bool} {S:Nat→Prop} (h:RW w0 w C Y aw cap zs V m) (k:Kept S w w') (hS:∀ x,S x→C x=1001 ∨ C x=1004 ∨ C x=1005 ∨ C x=1006) (hC:∀ x,x<w.heap.size→C' x=C x) (hl:∀ x,w.heap.size≤x→C' x<2000→x<w'.heap.size) (hr:w'.heap[Y.xb]? = some (.cells (rwC { Y with bv:=bv,fv:=fv,ev:=ev } aw zs.length cap).toArray 147 (0,0)))
  (hb:w'.ownsRow w0.heap.size 200 2 bv Bk.length (twoCells Bk)) (hbi:BrkI { V with br:=br } Bk) (hbl:Bk.length≤m') (hf:w'.ownsRow w0.heap.size 104 9 fv F.length (frCells F)) (he:w'.ownsRow w0.heap.size 121 3 ev E.length (evCells E)) (cb:∀ g,bv.ownBlock=some g→C' g=1004) (cf:∀ g,fv.ownBlock=some g→C' g=1005) (ce:∀ g,ev.ownBlock=some g→C' g=1006) (hI:XI zs { V with br:=br,fly:=F,evs:=E } m') :
  RW w0 w' C' { Y with bv:=bv,fv:=fv,ev:=ev } aw cap zs { V with br:=br,fly:=F,evs:=E } m':=by
 have n7:=h.n7.2
 have hs0:=h.bel.size
 have hlow:∀ x,S x→w0.heap.size≤x:=fun x hx=>h.low x (by rcases hS x hx with g|g|g|g <;> omega)
 have nS:∀ x,C x≠1001→C x≠1004→C x≠1005→C x≠1006→¬ S x:=fun x h1 h2 h3 h4 hs=>by rcases hS x hs with g|g|g|g <;> omega
 have cx:=h.cx; have cn:=h.cn
 have o:∀ {x c:Nat},C x=c→c<2000→C' x=c:=fun {x c} e hc=>(hC x (h.lt x (by omega))).trans e
 have nb:C (⟨Y.nb,0,none⟩:Addr).block=1003:=cn
 refine ⟨k.below h.bel.size hlow h.bel,hr,h.ws,fun e he=>cell_kept (h.ns e he) k (nS _ (by show C Y.nb≠_; omega) (by show C Y.nb≠_; omega) (by show C Y.nb≠_; omega) (by show C Y.nb≠_; omega)),fun e he=>?_,⟨Bk,hb,hbi,hbl⟩,hf,he,o h.cx (by omega),o h.cn (by omega),cb,cf,ce,fun x hx=>?_,fun x hx=>?_,hI⟩
 ·have hcol:=(h.nds e he).col (C':=C') hC
  exact hcol.kept (S:=fun x=>S x∧x<w.heap.size) (w':=w') ⟨k.os,k.tape,k.output,k.size,fun y hy hn=>k.block y hy (fun hs=>hn ⟨hs,hy⟩)⟩ (fun x hx hs=>nS x (by rw [← hC x hs.2]; omega) (by rw [← hC x hs.2]; omega) (by rw [← hC x hs.2]; omega) (by rw [← hC x hs.2]; omega) hs.1)
 ·rcases Nat.lt_or_ge x w.heap.size with q|q
  ·exact Nat.lt_of_lt_of_le q k.size
  ·exact hl x q hx
 ·rcases Nat.lt_or_ge x w.heap.size with q|q
  ·exact h.low x (by rw [← hC x q]; exact hx)
  ·omega
end
section
variable {w0 w w':World} {C C':Nat→Nat} {K:RB} {Y:YB} {aw:Option Addr} {i n cap m:Nat} {zs:List Int} {N:PN} {V V':PX}
theorem RN.cell (h:RN w C K i n cap aw N) (j:Nat):w.cell? ⟨K.nd,j,none⟩=(rndC K N)[j]?:=by
 rw [cell_of_row w K.nd j _ _ _ h.row,List.getElem?_toArray]
theorem RN.cells (h:RN w C K i n cap aw N):w.cell? ⟨K.nd,0,none⟩=some (rsV K N)∧w.cell? ⟨K.nd,1,none⟩=some (.pointer (some ⟨K.r,0,none⟩))∧w.cell? ⟨K.nd,2,none⟩=some (.slice (some ⟨K.ls,0,none⟩) 6 6)∧w.cell? ⟨K.nd,3,none⟩=some (.slice (some ⟨K.dn,0,none⟩) 6 6) :=
 ⟨h.cell 0,h.cell 1,h.cell 2,h.cell 3⟩
theorem RN.lead (h:RN w C K i n cap aw N) {d:Nat} (hd:d<6):w.cell? ⟨K.ls,d,none⟩=some (rldV K N d):=by
 rw [cell_of_row _ _ _ _ _ _ h.lrow]
 rcases six hd with rfl|rfl|rfl|rfl|rfl|rfl <;> rfl
theorem RN.bytes (h:RN w C K i n cap aw N):w.cell? ⟨K.r,0,none⟩=some (.string N.B):=by
 obtain ⟨off,l',cuts,p1,-⟩:=h.pl
 exact p1.c0
theorem rup_is (s:Int) (c:Nat) (h:RW w0 w C Y aw cap zs V m) (hc:cUp zs.length V s=c) :
  Calls Tryz.prog 120 #[.pointer (some ⟨Y.xb,0,none⟩),.int .i64 s] w fun e w'=>e=.returned (.int .i64 (c:Int))∧w'=w:=by
 obtain ⟨-,c1,-,-,-⟩:=h.cells
 have n7:=h.n7.2
 by_cases hs:0≤s∧s<zs.length
 ·obtain ⟨k,rfl⟩:=Int.eq_ofNat_of_zero_le hs.1
  have hk:k<zs.length:=by omega
  have cn:=h.ns k hk
  obtain ⟨d0,-,-,-⟩:=(h.nds k hk).cells
  have hcu:cUp zs.length V k=if upN (V.nd k)=true then 0 else 6:=by unfold cUp; rw [if_pos hs,Int.toNat_natCast]
  rw [hcu] at hc
  unfold rsV at d0
  obtain ⟨n,HN⟩:∃ n,zs.length=n:=⟨_,rfl⟩
  rw [HN] at c1 hk n7
  have hk2:¬ (n:Int)≤(k:Int):=by omega
  cases hu:upN (V.nd k) with
  | true =>
   rw [hu,if_pos rfl] at hc d0
   subst hc
   clear h hs hcu hu HN
   go_enter Tryz.func120,Tryz.ntmps120
   go_wp2_with fail
   go_ret
   exact ⟨rfl,rfl⟩
  | false =>
   rw [hu,if_neg (by decide)] at hc d0
   subst hc
   clear h hs hcu hu HN
   go_enter Tryz.func120,Tryz.ntmps120
   go_wp2_with fail
   go_ret
   exact ⟨rfl,rfl⟩
 ·have hcu:cUp zs.length V s=2:=by unfold cUp; rw [if_neg hs]
  rw [hcu] at hc
  subst hc
  obtain ⟨n,HN⟩:∃ n,zs.length=n:=⟨_,rfl⟩
  rw [HN] at c1 hs
  by_cases h0:s<0
  ·clear h hcu HN
   go_enter Tryz.func120,Tryz.ntmps120
   go_wp2_with fail
   go_ret
   exact ⟨rfl,rfl⟩
  ·have h1:(n:Int)≤s:=by omega
   clear h hcu HN
   go_enter Tryz.func120,Tryz.ntmps120
   go_wp2_with fail
   go_ret
   exact ⟨rfl,rfl⟩
theorem rleadOf_is (s d:Nat) (h:RW w0 w C Y aw cap zs V m) (hs:s<zs.length) (hd:d<6) :
  Calls Tryz.prog 100 #[.pointer (some ⟨Y.xb,0,none⟩),.int .i64 (s:Int),.int .i64 (d:Int)] w fun e w'=>(∃ b,e=.returned (.string b)∧b=(match (V.nd s).ld d with|none=>⟨#[110,111,110,101]⟩|some x=>stB x.2.stt))∧w'=w:=by
 obtain ⟨-,c1,-,-,-⟩:=h.cells
 have cn:=h.ns s hs
 obtain ⟨-,-,d2,-⟩:=(h.nds s hs).cells
 have hl:=(h.nds s hs).lead hd
 obtain ⟨n,HN⟩:∃ n,zs.length=n:=⟨_,rfl⟩
 rw [HN] at c1
 have hs2:s<n:=by omega
 cases hx:(V.nd s).ld d with
 | none =>
  rw [rldV_none hx] at hl
  clear h hx HN hs
  go_enter Tryz.func100,Tryz.ntmps100
  go_wp2_with fail
  go_ret
  exact ⟨⟨_,rfl,rfl⟩,rfl⟩
 | some x =>
  rw [rldV_some hx] at hl
  obtain ⟨L,r1,r2⟩:=(h.nds s hs).lds d hd x hx
  obtain ⟨-,-,-,-,e4,-,-,-,-⟩:=r2.cells
  rw [← r1.stt] at e4
  clear h hx HN hs r1 r2
  go_enter Tryz.func100,Tryz.ntmps100
  go_wp2_with fail
  go_ret
  exact ⟨⟨_,rfl,rfl⟩,rfl⟩
end
def rkey (Y:YB):Nat×(Nat→Nat):=(Y.xb,fun e=>(Y.K e).nd)
def ROut (w0 w w':World) (C:Nat→Nat) (Y:YB) (aw:Option Addr) (cap:Nat) (zs:List Int) (V':PX) (m':Nat):Prop :=
 ∃ C' Y',RW w0 w' C' Y' aw cap zs V' m'∧rkey Y'=rkey Y∧Kept (OwnX C) w w'∧∀ x,x<w.heap.size→C' x=C x
section
variable {w0 w w':World} {C C':Nat→Nat} {Y:YB} {aw:Option Addr} {cap m m':Nat} {zs:List Int} {V V':PX}
theorem rkey_xb {Y Y':YB} (h:rkey Y'=rkey Y):Y'.xb=Y.xb:=congrArg Prod.fst h
theorem RW.mono (h:RW w0 w C Y aw cap zs V m) (hm:m≤m'):RW w0 w C Y aw cap zs V m':=by
 obtain ⟨L,b1,b2,b3⟩:=h.brk
 exact ⟨h.bel,h.row,h.ws,h.ns,h.nds,⟨L,b1,b2,by omega⟩,h.fly,h.evs,h.cx,h.cn,h.cb,h.cf,h.ce,h.lt,h.low,h.inv.mono hm⟩
theorem RW.out (h:RW w0 w C Y aw cap zs V m) (hb:Below w.heap.size w w') (hm:m≤m'):ROut w0 w w' C Y aw cap zs V m' :=
 ⟨C,Y,(h.later hb).mono hm,rfl,Kept.of_below hb,fun _ _=>rfl⟩
theorem ROut.step {w1 w2:World} {C1:Nat→Nat} {Y1:YB} (hx:rkey Y1=rkey Y) (hk:Kept (OwnX C) w w1) (hc:∀ x,x<w.heap.size→C1 x=C x) (h2:ROut w0 w1 w2 C1 Y1 aw cap zs V' m'):ROut w0 w w2 C Y aw cap zs V' m':=by
 obtain ⟨C',Y',g1,g2,g3,g4⟩:=h2
 refine ⟨C',Y',g1,g2.trans hx,?_,fun x hx=>(g4 x (Nat.lt_of_lt_of_le hx hk.size)).trans (hc x hx)⟩
 refine ⟨g3.os.trans hk.os,g3.tape.trans hk.tape,g3.output.trans hk.output,Nat.le_trans hk.size g3.size,fun y hy hn=>?_⟩
 refine (g3.block y (Nat.lt_of_lt_of_le hy hk.size) (fun e=>hn ?_)).trans (hk.block y hy hn)
 show C y<2000
 rw [← hc y hy]
 exact e
theorem RW.framed {F:List F9} {v':Value} {S:Nat→Prop} (h:RW w0 w C Y aw cap zs V m) (hk:Kept S w w') (hS:∀ x,S x→Y.fv.ownBlock=some x) (hown:w'.ownsRow w0.heap.size 104 9 v' F.length (frCells F)) (ho:v'.ownBlock=none ∨ v'.ownBlock=Y.fv.ownBlock ∨ ∃ g,v'.ownBlock=some g∧w.heap.size≤g) (hm:m≤m') (hI:XI zs { V with fly:=F } m') :
  ROut w0 w (w'.setCell ⟨Y.xb,3,none⟩ v') C Y aw cap zs { V with fly:=F } m':=by
 have hx:=row_ltJ h.row
 have hcx:=h.cx
 have hSc:∀ x,S x→C x=1005:=fun x hx=>h.cf x (hS x hx)
 have hrow:w'.heap[Y.xb]? = some (.cells (rwC Y aw zs.length cap).toArray 147 (0,0)):=hk.row h.row (fun e=>by have:=hSc _ e; omega)
 have hK2:Kept (fun x=>x=Y.xb ∨ S x) w (w'.setCell ⟨Y.xb,3,none⟩ v'):=(hk.mono (fun x hx=>.inr hx)).setCell (.inl rfl) v'
 have hS2:∀ x,(x=Y.xb ∨ S x)→C x=1001 ∨ C x=1004 ∨ C x=1005 ∨ C x=1006:=fun x hx=>by
  rcases hx with rfl|hx
  ·exact .inl h.cx
  ·exact .inr (.inr (.inl (hSc x hx)))
 have hkk:Kept (OwnX C) w (w'.setCell ⟨Y.xb,3,none⟩ v'):=hK2.mono (fun x hx=>by show C x<2000; rcases hS2 x hx with g|g|g|g <;> omega)
 have hr2:(w'.setCell ⟨Y.xb,3,none⟩ v').heap[Y.xb]? = some (.cells (rwC { Y with bv:=Y.bv,fv:=v',ev:=Y.ev } aw zs.length cap).toArray 147 (0,0)):=by
  rw [heap_setCell_same w' Y.xb 3 _ _ _ hrow]; rfl
 have hne:∀ g,v'.ownBlock=some g→g≠Y.xb:=fun g hg e=>by
  rcases ho with o|o|⟨g',o,hge⟩
  ·rw [o] at hg; cases hg
  ·rw [o] at hg; have:=h.cf g hg; rw [e] at this; omega
  ·rw [o] at hg; have:=Option.some.inj hg; omega
 have hf:(w'.setCell ⟨Y.xb,3,none⟩ v').ownsRow w0.heap.size 104 9 v' F.length (frCells F):=own_kept hown ((Kept.refl (In1 Y.xb) w').set1 3 v') (fun g hg e=>hne g hg e)
 obtain ⟨L,b1,b2,b3⟩:=h.brk
 have hb:(w'.setCell ⟨Y.xb,3,none⟩ v').ownsRow w0.heap.size 200 2 Y.bv L.length (twoCells L):=own_kept b1 hK2 (fun g hg e=>by
  have h6:=h.cb g hg
  rcases e with rfl|e
  ·omega
  ·have:=hSc g e; omega)
 have he:(w'.setCell ⟨Y.xb,3,none⟩ v').ownsRow w0.heap.size 121 3 Y.ev V.evs.length (evCells V.evs):=own_kept h.evs hK2 (fun g hg e=>by
  have h6:=h.ce g hg
  rcases e with rfl|e
  ·omega
  ·have:=hSc g e; omega)
 obtain ⟨C1,hC1,hl1,hcg1⟩:∃ C1:Nat→Nat,(∀ x,x<w.heap.size→C1 x=C x)∧(∀ x,w.heap.size≤x→C1 x<2000→x<(w'.setCell ⟨Y.xb,3,none⟩ v').heap.size)∧∀ g,v'.ownBlock=some g→C1 g=1005:=by
  rcases ho with o|o|⟨g',o,hge⟩
  ·exact ⟨C,fun _ _=>rfl,fun x hx hc=>by have:=h.lt x hc; omega,fun g hg=>by rw [o] at hg; cases hg⟩
  ·exact ⟨C,fun _ _=>rfl,fun x hx hc=>by have:=h.lt x hc; omega,fun g hg=>h.cf g (by rw [← o]; exact hg)⟩
  ·refine ⟨paint C g' 1005,fun x hx=>paint_ne (by omega),fun x hx hc=>?_,fun g hg=>?_⟩
   ·by_cases e:x=g'
    ·rw [e]; have:=(hown.lt g' o).2; simpa using this
    ·rw [paint_ne e] at hc
     have:=h.lt x hc; omega
   ·rw [o] at hg
    obtain rfl:=Option.some.inj hg
    exact paint_at _ _ _
 refine ⟨C1,{ Y with bv:=Y.bv,fv:=v',ev:=Y.ev },?_,rfl,hkk,hC1⟩
 exact h.own (br:=V.br) (F:=F) (E:=V.evs) (Bk:=L) hK2 hS2 hC1 hl1 hr2 hb b2 (by omega) hf he (fun g hg=>by rw [hC1 g (b1.lt g hg).2]; exact h.cb g hg) hcg1 (fun g hg=>by rw [hC1 g (h.evs.lt g hg).2]; exact h.ce g hg) hI
theorem rsend_any (v:Value) (L:List F9) (h:RW w0 w C Y aw cap zs V m) (hv:IsFr w v L) (hL:∀ f,f∈L→FI zs.length f) (hl:L.length≤1000) (hm:m≤100000000) :
  Calls Tryz.prog 122 #[.pointer (some ⟨Y.xb,0,none⟩),v] w fun e w'=>e=.returned (.tuple #[])∧ROut w0 w w' C Y aw cap zs (sendX V L) (m+1):=by
 obtain ⟨-,-,-,c3,-⟩:=h.cells
 have z3:=h.fz 3
 have H:=hid h
 have HV:=hid hv
 have HL:=hid hL
 have hfl:V.fly.length+L.length≤1000000000000:=by have:=h.inv.fl; omega
 have HO:=hid h.fly
 have hbs:=h.bel.size
 have HX:Hid (∀ w',w.grownBy w' Y.fv.ownBlock→w'.cell? ⟨Y.xb,3,none⟩=some Y.fv∧w'.frozen? ⟨Y.xb,3,none⟩=false):=by
  intro w' hg
  have hr:=(grown_kept hg).row h.row (fun e=>by have h1:=h.cf _ e; have h2:=h.cx; omega)
  exact ⟨by rw [cell_of_row _ _ _ _ _ _ hr]; rfl,frozen_of_row _ _ _ _ _ hr⟩
 generalize hfv:Y.fv=fv at c3 HO
 have HFV:=hid hfv
 clear h hv hL hfv
 go_enter Tryz.func122,Tryz.ntmps122
 go_wp2_with (at_builtin; refine wpList_append_frs rfl _ _ rfl w0.heap.size V.fly.length _ v (frCells V.fly) L rfl rfl HO.out HV.out hfl hbs ?_; intro ad' cap' w' hown hg ho; obtain ⟨c3',z3'⟩:=HX.out w' (by rw [HFV.out]; exact hg); have HS:=hid (And.intro hown (And.intro hg ho)); clear hown hg ho)
 go_end0
 rw [← HFV.out] at HS
 refine ⟨rfl,?_⟩
 refine H.out.framed (F:=V.fly ++ L) (grown_kept HS.out.2.1) (fun x hx=>hx) (by rw [List.length_append,frCells_append]; exact HS.out.1) ?_ (Nat.le_succ _) (H.out.inv.send HL.out hl)
 rcases HS.out.2.2 with o|o
 ·exact .inr (.inl o)
 ·exact .inr (.inr ⟨_,o,Nat.le_refl _⟩)
end
end Go.Proofs.YtadhpkopkkjmfaaGreatDoor
