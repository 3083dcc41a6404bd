/-
  On the way to WStepsProof: XE XN XO XQ.
-/
import Derived.Test.YtadhpkopkkjmfaaGreatDoorBz41
import Derived.Test.YtadhpkopkkjmfaaGreatDoorBz44
set_option maxHeartbeats 8000000
set_option maxRecDepth 100000
namespace Go.Proofs.YtadhpkopkkjmfaaGreatDoor
open Go.RowKit
section
variable {w0 w w':World} {C C':Nat→Nat} {Y:YB} {aw:Option Addr} {cap m m':Nat} {zs:List Int} {V V':PX}
theorem rstate_is (s d h1 h2 h3:Nat) (h:RW w0 w C Y aw cap zs V m) (hs:s<zs.length) (hd:d<6) (hst:stN (V.nd s) d=⟨h1,h2,h3⟩) :
  Calls Tryz.prog 99 #[.pointer (some ⟨Y.xb,0,none⟩),.int .i64 (s:Int),.int .i64 (d:Int)] w fun e w'=>e=.returned (agS h1 h2 h3)∧Below w.heap.size w w':=by
 obtain ⟨W,HW⟩:∃ W,Hid (w.alloc (.cells #[.int .i64 0,.int .i64 0,.int .i64 0] 43)=W):=⟨_,rfl⟩
 have HZ:Hid (Z3 w W w.heap.size):=by rw [← HW.out]; exact z3 w
 have hL:=h.later HZ.out.b
 obtain ⟨-,c1,-,-,-⟩:=hL.cells
 have cn:=hL.ns s hs
 obtain ⟨-,d1,-,-⟩:=(hL.nds s hs).cells
 have cB:=(hL.nds s hs).bytes
 have hsz:=(h.inv.nd s hs).sz
 obtain ⟨nn,hnn⟩:∃ nn,(dlN (V.nd s) d).1=nn:=⟨_,rfl⟩
 have hdl:dealL (V.nd s).B.data.toList d=(nn,⟨h1,h2,h3⟩):=Prod.ext hnn hst
 have HDl:=hid (fun w=>rdeal_any (V.nd s).B d nn h1 h2 h3 w (by omega) (by omega) hdl)
 obtain ⟨n,HN⟩:∃ n,zs.length=n:=⟨_,rfl⟩
 rw [HN] at c1
 have hs2:s<n:=by omega
 have hW:=HW.out
 unfold agS
 clear h hL hs hst hnn hdl HN
 go_enter Tryz.func99,Tryz.ntmps99
 go_wp2_with fail
 refine (HDl.out _).mono ?_
 rintro e w1 ⟨rfl,hb1⟩
 have HZ1:=hid (HZ.out.later hb1)
 obtain ⟨W2,HW2⟩:∃ W2,Hid (w1.alloc (.cells #[.int .i64 (h1:Int),.int .i64 (h2:Int),.int .i64 (h3:Int)] 43)=W2):=⟨_,rfl⟩
 have HB2:Hid (Below w1.heap.size w1 W2):=by rw [← HW2.out]; exact (Below.refl _ _).alloc (Nat.le_refl _) _
 have HN2:Hid (W2.heap[w1.heap.size]? = some (.cells #[.int .i64 (h1:Int),.int .i64 (h2:Int),.int .i64 (h3:Int)] 43 (0,0))):=by rw [← HW2.out]; exact heap_alloc_new w1 _
 have HZ2:=hid (HZ1.out.later HB2.out)
 obtain ⟨q0,q1,q2,z0,z1,z2⟩:=HZ2.out.cells
 have e0:W2.cell? ⟨w1.heap.size,0,none⟩=some (.int .i64 (h1:Int)):=(cell_of_row _ _ 0 _ _ _ HN2.out)
 have e1:W2.cell? ⟨w1.heap.size,1,none⟩=some (.int .i64 (h2:Int)):=(cell_of_row _ _ 1 _ _ _ HN2.out)
 have e2:W2.cell? ⟨w1.heap.size,2,none⟩=some (.int .i64 (h3:Int)):=(cell_of_row _ _ 2 _ _ _ HN2.out)
 have hW2:=HW2.out
 clear hb1
 go_wp2_with fail
 refine bodyPost_ret (results_cell_row rfl _ _ w.heap.size 43 _ (0,0) _ rfl (set3 HZ2.out.r _ _ _) Tryz.underlying43 rfl sizeState) rfl ?_
 exact ⟨rfl,((HZ2.out.b.setCell (Nat.le_refl _) _).setCell (Nat.le_refl _) _).setCell (Nat.le_refl _) _⟩
end
section
variable {w0 w w':World} {C C':Nat→Nat} {K:RB} {Y:YB} {aw:Option Addr} {i n cap m m':Nat} {zs:List Int} {N:PN} {V V':PX}
theorem rkey_K {Y:YB} {K:RB} {i:Nat} (h:K.nd=(Y.K i).nd):rkey { Y with K:=fun e=>if e=i then K else Y.K e }=rkey Y:=by
 unfold rkey
 refine Prod.ext rfl (funext fun e=>?_)
 show (if e=i then K else Y.K e).nd=(Y.K e).nd
 by_cases g:e=i
 ·rw [if_pos g,g,h]
 ·rw [if_neg g]
theorem RW.nodeOut {S:Nat→Prop} (h:RW w0 w C Y aw cap zs V m) (hi:i<zs.length) (k:Kept S w w') (hS:∀ x,S x→C x / 100=i) (hN:RN w' C K i zs.length cap aw N) (hK:K.nd=(Y.K i).nd) (hm:m≤m') (hI:NI zs.length N m') :
  ROut w0 w w' C Y aw cap zs (setNd V i N) m':=by
 have n7:=h.n7.2
 exact ⟨C,_,h.node k hi hS (fun _ _=>rfl) (fun x hx hc=>by have:=h.lt x hc; omega) hN hK hm (h.inv.node hI hm),rkey_K hK,k.mono (fun x hx=>by show C x<2000; have:=hS x hx; omega),fun _ _=>rfl⟩
theorem RN.refuse {d:Nat} (h:RN w C K i n cap aw N) (hu:upN N=true) (hd:d<6):RN (w.setCell ⟨K.gb,d,none⟩ (.bool true)) C K i n cap aw { N with R:=updR N.R d }:=by
 obtain ⟨c1,c2,c3,c4,c5⟩:=h.cu hu
 have k:Kept (In1 K.gb) w (w.setCell ⟨K.gb,d,none⟩ (.bool true)):=(Kept.refl _ w).set1 d _
 have e1:=h.cn; have e2:=h.cr; have e3:=h.cl; have e4:=h.cd
 have no:∀ x,C x≠100 * i+6→¬ In1 K.gb x:=fun x g hx=>g (by rw [show x=K.gb from hx]; exact c5)
 obtain ⟨off,l',cuts,p1,p2⟩:=h.pl
 obtain ⟨u1,u2⟩:=h.up hu
 refine ⟨k.row h.row (no _ (by omega)),⟨off,l',cuts,p1.kept k (no _ (by omega)),p2⟩,fun _=>⟨u1.kept k (no _ (by omega)) (no _ (by omega)) (no _ (by omega)) (no _ (by omega)),?_⟩,k.row h.lrow (no _ (by omega)),k.row h.drow (no _ (by omega)),fun d hd x hx=>?_,h.cn,h.cr,h.cl,h.cd,fun _=>⟨c1,c2,c3,c4,c5⟩,h.ce⟩
 ·exact u2.refuse hd (fun e=>by rw [e] at c1; omega)
 ·obtain ⟨L,r1,r2⟩:=h.lds d hd x hx
  obtain ⟨b1,b2⟩:=h.ce d hd x hx
  exact ⟨L,r1,r2.kept k (no _ (by omega)) (fun g hg=>no g (by have:=b2 g hg; omega))⟩
theorem rrefuse_any (s d:Int) (c:Nat) (h:RW w0 w C Y aw cap zs V m) (hc:cRef zs.length V s d=c) :
  Calls Tryz.prog 89 #[.pointer (some ⟨Y.xb,0,none⟩),.int .i64 s,.int .i64 d] w fun e w'=>e=.returned (.int .i64 (c:Int))∧ROut w0 w w' C Y aw cap zs (if c=0 then refuseX V s.toNat d.toNat else V) (m+1):=by
 have H:=hid h
 by_cases hd:0≤d∧d<6
 ·obtain ⟨dn,rfl⟩:=Int.eq_ofNat_of_zero_le hd.1
  have hd6:dn<6:=by omega
  have hcu:cRef zs.length V s dn=cUp zs.length V s:=by
   unfold cRef cUp
   by_cases hs:0≤s∧s<zs.length
   ·rw [if_pos ⟨hs,hd⟩,if_pos hs]
   ·rw [if_neg (fun g=>hs g.1),if_neg hs]
  have HU:=hid (rup_is s c h (by rw [← hcu]; exact hc))
  by_cases c0:c=0
  ·obtain ⟨k,rfl,hk,hup⟩:∃ k:Nat,s=k∧k<zs.length∧upN (V.nd k)=true:=by
    rw [hcu] at hc
    unfold cUp at hc
    by_cases hs:0≤s∧s<zs.length
    ·rw [if_pos hs] at hc
     refine ⟨s.toNat,by omega,by omega,?_⟩
     by_cases hu:upN (V.nd s.toNat)=true
     ·exact hu
     ·rw [if_neg hu] at hc; omega
    ·rw [if_neg hs] at hc; omega
   subst c0
   obtain ⟨-,c1,-,-,-⟩:=h.cells
   have cn:=h.ns k hk
   have hN:=h.nds k hk
   obtain ⟨d0,-,-,-⟩:=hN.cells
   unfold rsV at d0
   rw [hup,if_pos rfl] at d0
   obtain ⟨-,u2⟩:=hN.up hup
   obtain ⟨-,-,t2⟩:=u2.cells
   have g1:=u2.ref hd6
   have g2:w.frozen? ⟨(Y.K k).gb,dn,none⟩=false:=frozen_of_row _ _ _ _ _ u2.refs
   have HN:=hid (hN.refuse hup hd6)
   have HK:=hid hk
   have HUP:=hid hup
   obtain ⟨n,HNn⟩:∃ n,zs.length=n:=⟨_,rfl⟩
   rw [HNn] at c1 hk
   have HNN:=hid HNn
   clear h hc hcu hd u2 hN hup HNn
   go_enter Tryz.func89,Tryz.ntmps89
   go_wp2_with fail
   refine HU.out.mono ?_
   rintro e w1 ⟨rfl,rfl⟩
   go_wp2_with fail
   go_ret
   refine ⟨rfl,?_⟩
   exact H.out.nodeOut HK.out ((Kept.refl (In1 _) w1).set1 dn _) (fun x hx=>by rw [show x=_ from hx]; have:=((H.out.nds k HK.out).cu HUP.out).2.2.2.2; omega) HN.out rfl (Nat.le_succ _) ((H.out.inv.nd k HK.out).refuse.mono (Nat.le_succ _))
  ·have c9:¬ ((c:Int)=0):=by omega
   rw [if_neg c0]
   clear h hc hcu hd
   go_enter Tryz.func89,Tryz.ntmps89
   go_wp2_with fail
   refine HU.out.mono ?_
   rintro e w1 ⟨rfl,rfl⟩
   go_wp2_with fail
   go_ret
   exact ⟨rfl,H.out.out (Below.refl _ _) (Nat.le_succ _)⟩
 ·have e:c=2:=by rw [← hc]; unfold cRef; rw [if_neg (fun g=>hd g.2)]
  subst e
  rw [if_neg (by decide)]
  by_cases h0:d<0
  ·clear h hc hd
   go_enter Tryz.func89,Tryz.ntmps89
   go_wp2_with fail
   go_ret
   exact ⟨rfl,H.out.out (Below.refl _ _) (Nat.le_succ _)⟩
  ·have h1:(6:Int)≤d:=by omega
   clear h hc hd
   go_enter Tryz.func89,Tryz.ntmps89
   go_wp2_with fail
   go_ret
   exact ⟨rfl,H.out.out (Below.refl _ _) (Nat.le_succ _)⟩
end
theorem Tryz.infoRL:(Tryz.prog.info? 188).map (fun i=>(i.zero,i.size,i.bytes))=some (some (.pointer none),1,8):=by kernel_rfl
theorem made_rl:madeCells (Value.pointer none).cells 6=#[.pointer none,.pointer none,.pointer none,.pointer none,.pointer none,.pointer none]:=by first|rfl|kernel_rfl
theorem mkRL (w:World):(Instr.makeSlice 155 (.int .i64 6) (.int .i64 6)).run Tryz.prog w=.ok (.slice (some ⟨w.heap.size,0,none⟩) 6 6) (w.alloc (.cells #[.pointer none,.pointer none,.pointer none,.pointer none,.pointer none,.pointer none] 188)):=by
 obtain ⟨i0,hi,hz0,hz1,hz2⟩:=info_parts Tryz.infoRL
 have hr:=run_make (P:=Tryz.prog) w 155 188 i0 _ Tryz.underlying155 hi hz0 .i64 .i64 6 6 (by omega) (Int.le_refl _) (by rw [hz2]; decide) (by decide)
 rw [hz1,show Int.toNat 6 * 1=6 from rfl,made_rl] at hr
 exact hr
def fallW (w:World) (nd:Nat):World:=((w.setCell ⟨nd,0,none⟩ (.pointer none)).alloc (.cells #[.pointer none,.pointer none,.pointer none,.pointer none,.pointer none,.pointer none] 188)).setCell ⟨nd,2,none⟩ (.slice (some ⟨w.heap.size,0,none⟩) 6 6)
section
variable {w0 w w1 w':World} {C C':Nat→Nat} {K:RB} {Y:YB} {aw:Option Addr} {i n cap m m':Nat} {zs:List Int} {N:PN} {V V':PX}
theorem fallW_size (w:World) (nd:Nat):(fallW w nd).heap.size=w.heap.size+1:=by unfold fallW; simp
theorem fallW_kept (w:World) (nd:Nat):Kept (In1 nd) w (fallW w nd):=by
 unfold fallW
 refine Kept.set1 ?_ 2 _
 exact ((Kept.refl (In1 nd) w).set1 0 _).trans (Kept.of_below ((Below.refl _ _).alloc (Nat.le_refl _) _))
theorem fallW_row {a b c d:Value} (h:w.heap[K.nd]? = some (.cells #[a,b,c,d] 157 (0,0))):(fallW w K.nd).heap[K.nd]? = some (.cells #[.pointer none,b,.slice (some ⟨w.heap.size,0,none⟩) 6 6,d] 157 (0,0)):=by
 have h1:=heap_setCell_same w K.nd 0 _ _ (.pointer none) h
 have h2:((w.setCell ⟨K.nd,0,none⟩ (.pointer none)).alloc (.cells #[.pointer none,.pointer none,.pointer none,.pointer none,.pointer none,.pointer none] 188)).heap[K.nd]? = _:=(Below.heap_alloc _ _ _ (row_ltJ h1)).trans h1
 unfold fallW
 rw [heap_setCell_same _ K.nd 2 _ _ _ h2]
 rfl
theorem fallW_new (h:K.nd<w.heap.size):(fallW w K.nd).heap[w.heap.size]? = some (.cells #[.pointer none,.pointer none,.pointer none,.pointer none,.pointer none,.pointer none] 188 (0,0)):=by
 unfold fallW
 rw [heap_setCell_other _ _ _ _ (by show w.heap.size≠K.nd; omega)]
 have:=heap_alloc_new (w.setCell ⟨K.nd,0,none⟩ (.pointer none)) (.cells #[.pointer none,.pointer none,.pointer none,.pointer none,.pointer none,.pointer none] 188)
 simpa using this
theorem rfall_any {nd:Nat} {a b c d:Value} (h:w.heap[nd]? = some (.cells #[a,b,c,d] 157 (0,0))) :
  Calls Tryz.prog 127 #[.pointer (some ⟨nd,0,none⟩)] w fun e w'=>e=.returned (.tuple #[])∧w'=fallW w nd:=by
 have c0:w.cell? ⟨nd,0,none⟩=some a:=cell_of_row _ _ 0 _ _ _ h
 have f0:w.frozen? ⟨nd,0,none⟩=false:=frozen_of_row _ _ _ _ _ h
 have h1:=heap_setCell_same w nd 0 _ _ (.pointer none) h
 have h2:((w.setCell ⟨nd,0,none⟩ (.pointer none)).alloc (.cells #[.pointer none,.pointer none,.pointer none,.pointer none,.pointer none,.pointer none] 188)).heap[nd]? = _:=(Below.heap_alloc _ _ _ (row_ltJ h1)).trans h1
 have c2:((w.setCell ⟨nd,0,none⟩ (.pointer none)).alloc (.cells #[.pointer none,.pointer none,.pointer none,.pointer none,.pointer none,.pointer none] 188)).cell? ⟨nd,2,none⟩=some c:=cell_of_row _ _ 2 _ _ _ h2
 have f2:((w.setCell ⟨nd,0,none⟩ (.pointer none)).alloc (.cells #[.pointer none,.pointer none,.pointer none,.pointer none,.pointer none,.pointer none] 188)).frozen? ⟨nd,2,none⟩=false:=frozen_of_row _ _ _ _ _ h2
 have hmk:=mkRL
 clear h h1 h2
 unfold fallW
 go_enter Tryz.func127,Tryz.ntmps127
 go_wp2_with fail
 go_end0
 exact ⟨rfl,by simp⟩
theorem RN.fall {S:Nat→Prop} {B:ByteArray} {ov:Bool} (h:RN w C K i n cap aw N) (hk:Kept S w w1) (hS:∀ x,S x→C x / 100=i∧C x≠100 * i+1∧C x≠100 * i+9) (hp:∃ off l' cuts,RP w1 K.r B off l' cuts∧Lk (-2) off l' cuts) (hd:∀ d,d<6→finB (dealL B.data.toList d).2.ph=finB (stN N d).ph) :
  RN (fallW w1 K.nd) (paint C w1.heap.size (100 * i+8)) { K with ls:=w1.heap.size } i n cap aw (fallN { N with B:=B,over:=ov }):=by
 have e1:=h.cn; have e2:=h.cr; have e3:=h.cl; have e4:=h.cd
 have lnd:=row_ltJ h.row
 have ldn:=row_ltJ h.drow
 have hsz:=hk.size
 have hrow:w1.heap[K.nd]? = some (.cells (rndC K N).toArray 157 (0,0)):=hk.row h.row (fun e=>(hS _ e).2.1 e1)
 have hdrow:VR w1 K.dn (fun d=>finB (stN N d).ph):=hk.row h.drow (fun e=>(hS _ e).2.2 e4)
 have k2:=fallW_kept w1 K.nd
 obtain ⟨off,l',cuts,p1,p2⟩:=hp
 have lr:K.r<w1.heap.size:=row_ltJ p1
 have g1:K.r≠K.nd:=fun e=>by rw [e] at e2; omega
 have g2:K.dn≠K.nd:=fun e=>by rw [e] at e4; omega
 have hdr:VR (fallW w1 K.nd) K.dn (fun d=>finB (stN N d).ph):=k2.row hdrow g2
 refine ⟨?_,⟨off,l',cuts,p1.kept k2 g1,p2⟩,fun hu=>(by cases hu),?_,?_,fun d hd x hx=>(by cases hx),?_,?_,?_,?_,fun hu=>(by cases hu),fun d hd x hx=>(by cases hx)⟩
 ·exact fallW_row hrow
 ·exact fallW_new (by omega)
 ·unfold VR at hdr ⊢
  rw [hdr]
  have q:∀ d,d<6→finB (stN (fallN { N with B:=B,over:=ov }) d).ph=finB (stN N d).ph:=hd
  simp only [q 0 (by omega),q 1 (by omega),q 2 (by omega),q 3 (by omega),q 4 (by omega),q 5 (by omega)]
 ·show paint C _ _ K.nd=_
  rw [paint_ne (by omega)]; exact e1
 ·show paint C _ _ K.r=_
  rw [paint_ne (by omega)]; exact e2
 ·exact paint_at _ _ _
 ·show paint C _ _ K.dn=_
  rw [paint_ne (by omega)]; exact e4
theorem RW.fell {S:Nat→Prop} {B:ByteArray} {ov:Bool} (h:RW w0 w C Y aw cap zs V m) (hi:i<zs.length) (hk:Kept S w w1) (hS:∀ x,S x→C x / 100=i∧C x≠100 * i+1∧C x≠100 * i+9) (hp:∃ off l' cuts,RP w1 (Y.K i).r B off l' cuts∧Lk (-2) off l' cuts) (hd:∀ d,d<6→finB (dealL B.data.toList d).2.ph=finB (stN (V.nd i) d).ph) (hm:m≤m') (hI:NI zs.length (fallN { V.nd i with B:=B,over:=ov }) m') :
  ROut w0 w (fallW w1 (Y.K i).nd) C Y aw cap zs (setNd V i (fallN { V.nd i with B:=B,over:=ov })) m':=by
 have n7:=h.n7.2
 have hN:=h.nds i hi
 have e1:=hN.cn
 have hsz:=hk.size
 have hK:Kept (fun x=>C x / 100=i) w (fallW w1 (Y.K i).nd):=(hk.mono (fun x hx=>(hS x hx).1)).trans ((fallW_kept w1 (Y.K i).nd).mono (fun x hx=>by rw [show x=_ from hx]; omega))
 refine ⟨_,_,h.node hK hi (fun x hx=>hx) (fun x hx=>paint_ne (by omega)) (fun x hx hc=>?_) (hN.fall (ov:=ov) hk hS hp hd) rfl hm (h.inv.node hI hm),rkey_K rfl,hK.mono (fun x hx=>by show C x<2000; omega),fun x hx=>paint_ne (by omega)⟩
 rw [fallW_size]
 by_cases e:x=w1.heap.size
 ·omega
 ·rw [paint_ne e] at hc
  have:=h.lt x hc
  omega
end
def noteL (F:List E3) (i:Nat) (g:Nat→Bool) (p:Nat→Nat):Nat→List E3
 | 0=>F
 | k+1=>if g k=false∧finB (p k)=true∧(noteL F i g p k).length<500 then noteL F i g p k ++ [⟨i,k,p k⟩] else noteL F i g p k
def noteG (g:Nat→Bool) (p:Nat→Nat) (k:Nat):Nat→Bool:=fun e=>if e<k then g e || finB (p e) else g e
theorem noteL_skip {F:List E3} {i:Nat} {g:Nat→Bool} {p:Nat→Nat} {k:Nat} (h:g k=finB (p k)):noteL F i g p (k+1)=noteL F i g p k:=by
 rw [noteL,if_neg]
 rintro ⟨h1,h2,-⟩
 rw [h,h2] at h1; cases h1
theorem noteL_below {F:List E3} {i d:Nat} {g:Nat→Bool} {p:Nat→Nat} (h:∀ e,e<d→g e=finB (p e)):∀ k,k≤d→noteL F i g p k=F
 | 0,_=>rfl
 | k+1,hk=>(noteL_skip (h k (by omega))).trans (noteL_below h k (by omega))
theorem noteL_above {F:List E3} {i d:Nat} {g:Nat→Bool} {p:Nat→Nat} (h:∀ e,d<e→e<6→g e=finB (p e)):∀ j,d+1+j≤6→noteL F i g p (d+1+j)=noteL F i g p (d+1)
 | 0,_=>rfl
 | j+1,hk=>(noteL_skip (h (d+1+j) (by omega) (by omega))).trans (noteL_above h j (by omega))
theorem noteL_one {F:List E3} {i d was:Nat} {g:Nat→Bool} {p:Nat→Nat} (hd:d<6) (ho:∀ e,e<6→e≠d→g e=finB (p e)) (hg:g d=finB was) (hw:finB was=true→p d=was):noteL F i g p 6=noteE F i d was (p d):=by
 obtain ⟨j,hj⟩:∃ j,6=d+1+j:=⟨5 - d,by omega⟩
 rw [hj,noteL_above (fun e h1 h2=>ho e h2 (by omega)) j (by omega),noteL,noteL_below (fun e h1=>ho e (by omega) (by omega)) d (Nat.le_refl _)]
 unfold noteE
 by_cases q:finB (p d)=true∧F.length<500
 ·by_cases w:finB was=true
  ·rw [if_neg (by rw [hg,w]; simp),if_neg (fun x=>x.1 (hw w))]
  ·rw [if_pos ⟨by rw [hg]; simpa using w,q⟩,if_pos ⟨fun e=>w (by rw [← e]; exact q.1),q⟩]
 ·rw [if_neg (fun x=>q x.2),if_neg (fun x=>q x.2)]
theorem noteL_none {F:List E3} {i:Nat} {g:Nat→Bool} {p:Nat→Nat} (ho:∀ e,e<6→g e=finB (p e)):noteL F i g p 6=F:=noteL_below ho 6 (Nat.le_refl _)
theorem noteG_zero (g:Nat→Bool) (p:Nat→Nat):noteG g p 0=g:=funext fun e=>by unfold noteG; rw [if_neg (by omega)]
theorem noteG_skip {g:Nat→Bool} {p:Nat→Nat} {k:Nat} (h:g k=true ∨ finB (p k)=false):noteG g p (k+1)=noteG g p k:=funext fun e=>by
 unfold noteG
 by_cases q:e=k
 ·subst q
  rw [if_pos (by omega),if_neg (by omega)]
  rcases h with h|h <;> rw [h] <;> simp
 ·by_cases r:e<k
  ·rw [if_pos (by omega),if_pos r]
  ·rw [if_neg (by omega),if_neg r]
theorem noteG_mark {g:Nat→Bool} {p:Nat→Nat} {k:Nat} (h:finB (p k)=true):noteG g p (k+1)=updB (noteG g p k) k true:=funext fun e=>by
 unfold noteG updB
 by_cases q:e=k
 ·subst q
  rw [if_pos (by omega),if_pos rfl,h]; simp
 ·rw [if_neg q]
  show _=if e<k then g e || finB (p e) else g e
  by_cases r:e<k
  ·rw [if_pos (by omega),if_pos r]
  ·rw [if_neg (by omega),if_neg r]
theorem noteG_at (g:Nat→Bool) (p:Nat→Nat) (k:Nat):noteG g p k k=g k:=by unfold noteG; rw [if_neg (by omega)]
theorem noteG_six {g:Nat→Bool} {p:Nat→Nat} {e:Nat} (he:e<6) (h:g e=true→finB (p e)=true):noteG g p 6 e=finB (p e):=by
 unfold noteG
 rw [if_pos he]
 cases hg:g e with
 | true=>rw [h hg]; rfl
 | false=>rfl
structure NT (b0:Nat) (w:World) (C:Nat→Nat) (Y:YB) (K:RB) (aw:Option Addr) (cap n i:Nat) (g:Nat→Bool) (E:Nat→Nat×St) (F:List E3):Prop where
 row:w.heap[Y.xb]? = some (.cells (rwC Y aw n cap).toArray 147 (0,0))
 ns:w.cell? ⟨Y.nb,i,none⟩=some (.pointer (some ⟨K.nd,0,none⟩))
 nd:w.cell? ⟨K.nd,0,none⟩=some (.pointer (some ⟨K.t,0,none⟩))
 dd:w.cell? ⟨K.nd,3,none⟩=some (.slice (some ⟨K.dn,0,none⟩) 6 6)
 st:w.cell? ⟨K.t,1,none⟩=some (.pointer (some ⟨K.m,0,none⟩))
 js:∃ cs,w.cell? ⟨K.m,2,none⟩=some (.slice (some ⟨K.gs,0,none⟩) 6 cs)
 ph:∀ d,d<6→w.cell? ⟨K.gs,d * 3,none⟩=some (.int .i64 ((E d).2.ph:Int))
 drow:VR w K.dn g
 evs:w.ownsRow b0 121 3 Y.ev F.length (evCells F)
 le:F.length≤500
 i7:i<7
 cx:C Y.xb=1001
 cn:C Y.nb=1003
 c1:C K.nd=100 * i+1
 c2:C K.t=100 * i+2
 c3:C K.m=100 * i+3
 c5:C K.gs=100 * i+5
 c9:C K.dn=100 * i+9
 ce:∀ g,Y.ev.ownBlock=some g→C g=1006
 lt:∀ x,C x<2000→x<w.heap.size
def InN (C:Nat→Nat) (i:Nat) (x:Nat):Prop:=C x=1001 ∨ C x=1006 ∨ C x=100 * i+9
section
variable {b0:Nat} {w w':World} {C C':Nat→Nat} {Y:YB} {K:RB} {aw:Option Addr} {cap n i k:Nat} {g:Nat→Bool} {E:Nat→Nat×St} {F:List E3}
theorem NT.later (h:NT b0 w C Y K aw cap n i g E F) (hb:Below w.heap.size w w'):NT b0 w' C Y K aw cap n i g E F:=by
 have k:Kept (fun _=>False) w w':=Kept.of_below hb
 obtain ⟨cs,js⟩:=h.js
 exact ⟨k.row h.row (fun x=>x),cell_kept h.ns k (fun x=>x),cell_kept h.nd k (fun x=>x),cell_kept h.dd k (fun x=>x),cell_kept h.st k (fun x=>x),⟨cs,cell_kept js k (fun x=>x)⟩,fun d hd=>cell_kept (h.ph d hd) k (fun x=>x),k.row h.drow (fun x=>x),own_kept h.evs k (fun _ _ x=>x),h.le,h.i7,h.cx,h.cn,h.c1,h.c2,h.c3,h.c5,h.c9,h.ce,fun x hx=>Nat.lt_of_lt_of_le (h.lt x hx) hb.size⟩
theorem NT.cells (h:NT b0 w C Y K aw cap n i g E F):w.cell? ⟨Y.xb,1,none⟩=some (.slice (some ⟨Y.nb,0,none⟩) n Y.nc)∧w.cell? ⟨Y.xb,4,none⟩=some Y.ev∧w.frozen? ⟨Y.xb,4,none⟩=false :=
 ⟨by rw [cell_of_row _ _ _ _ _ _ h.row]; rfl,by rw [cell_of_row _ _ _ _ _ _ h.row]; rfl,frozen_of_row _ _ _ _ _ h.row⟩
theorem NT.mark (h:NT b0 w C Y K aw cap n i g E F) (hk:k<6):NT b0 (w.setCell ⟨K.dn,k,none⟩ (.bool true)) C Y K aw cap n i (updB g k true) E F:=by
 have q:Kept (In1 K.dn) w (w.setCell ⟨K.dn,k,none⟩ (.bool true)):=(Kept.refl _ w).set1 k _
 have i7:=h.i7; have cx:=h.cx; have cn:=h.cn; have c1:=h.c1; have c2:=h.c2; have c3:=h.c3; have c5:=h.c5; have c9:=h.c9
 have no:∀ x,C x≠100 * i+9→¬ In1 K.dn x:=fun x r hx=>r (by rw [show x=K.dn from hx]; exact c9)
 obtain ⟨cs,js⟩:=h.js
 exact ⟨q.row h.row (no _ (by omega)),cell_kept h.ns q (no Y.nb (by omega)),cell_kept h.nd q (no K.nd (by omega)),cell_kept h.dd q (no K.nd (by omega)),cell_kept h.st q (no K.t (by omega)),⟨cs,cell_kept js q (no K.m (by omega))⟩,fun d hd=>cell_kept (h.ph d hd) q (no K.gs (by omega)),h.drow.set hk true,own_kept h.evs q (fun x hx=>no x (by have:=h.ce x hx; omega)),h.le,h.i7,h.cx,h.cn,h.c1,h.c2,h.c3,h.c5,h.c9,h.ce,fun x hx=>by simpa using h.lt x hx⟩
def NTo (b0:Nat) (w w':World) (C:Nat→Nat) (Y:YB) (K:RB) (aw:Option Addr) (cap n i:Nat) (g:Nat→Bool) (E:Nat→Nat×St) (F:List E3):Prop :=
 ∃ C' v,NT b0 w' C' { Y with ev:=v } K aw cap n i g E F∧Kept (InN C i) w w'∧∀ x,x<w.heap.size→C' x=C x
theorem NTo.step {w1 w2:World} {C1:Nat→Nat} {v1:Value} {g':Nat→Bool} {F':List E3} (hk:Kept (InN C i) w w1) (hc:∀ x,x<w.heap.size→C1 x=C x) (h2:NTo b0 w1 w2 C1 { Y with ev:=v1 } K aw cap n i g' E F'):NTo b0 w w2 C Y K aw cap n i g' E F':=by
 obtain ⟨C',v,g1,g3,g4⟩:=h2
 refine ⟨C',v,g1,?_,fun x hx=>(g4 x (Nat.lt_of_lt_of_le hx hk.size)).trans (hc x hx)⟩
 refine ⟨g3.os.trans hk.os,g3.tape.trans hk.tape,g3.output.trans hk.output,Nat.le_trans hk.size g3.size,fun y hy hn=>?_⟩
 refine (g3.block y (Nat.lt_of_lt_of_le hy hk.size) (fun e=>hn ?_)).trans (hk.block y hy hn)
 unfold InN at e ⊢
 rw [← hc y hy]
 exact e
theorem NT.push {v':Value} {e:E3} (h:NT b0 w C Y K aw cap n i g E F) (hown:w'.ownsRow b0 121 3 v' (F.length+1) (evCells F ++ e3L e)) (hg:w.grownBy w' Y.ev.ownBlock) (ho:v'.ownBlock=Y.ev.ownBlock ∨ v'.ownBlock=some w.heap.size) (hl:F.length<500) :
  NTo b0 w (w'.setCell ⟨Y.xb,4,none⟩ v') C Y K aw cap n i g E (F ++ [e]):=by
 have i7:=h.i7; have cx:=h.cx; have cn:=h.cn; have c1:=h.c1; have c2:=h.c2; have c3:=h.c3; have c5:=h.c5; have c9:=h.c9
 have hx:=row_ltJ h.row
 have hk:=grown_kept hg
 have hrow:w'.heap[Y.xb]? = some (.cells (rwC Y aw n cap).toArray 147 (0,0)):=hk.row h.row (fun q=>by have:=h.ce _ q; omega)
 have hK2:Kept (InN C i) w (w'.setCell ⟨Y.xb,4,none⟩ v'):=(hk.mono (fun x hx=>.inr (.inl (h.ce x hx)))).setCell (.inl cx) v'
 have no:∀ x,C x≠1001→C x≠1006→C x≠100 * i+9→¬ InN C i x:=fun x h1 h2 h3 hx=>by rcases hx with q|q|q <;> omega
 have hK3:Kept (fun x=>x=Y.xb ∨ Y.ev.ownBlock=some x) w (w'.setCell ⟨Y.xb,4,none⟩ v'):=(hk.mono (fun x hx=>.inr hx)).setCell (.inl rfl) v'
 have hdn:¬ (K.dn=Y.xb ∨ Y.ev.ownBlock=some K.dn):=fun q=>by
  rcases q with q|q
  ·rw [q] at c9; omega
  ·have:=h.ce _ q; omega
 have hr2:(w'.setCell ⟨Y.xb,4,none⟩ v').heap[Y.xb]? = some (.cells (rwC { Y with ev:=v' } aw n cap).toArray 147 (0,0)):=by
  rw [heap_setCell_same w' Y.xb 4 _ _ _ hrow]; rfl
 have hne:∀ x,v'.ownBlock=some x→x≠Y.xb:=fun x hx2 q=>by
  rcases ho with o|o
  ·rw [o] at hx2; have:=h.ce x hx2; rw [q] at this; omega
  ·rw [o] at hx2; have:=Option.some.inj hx2; omega
 have he:(w'.setCell ⟨Y.xb,4,none⟩ v').ownsRow b0 121 3 v' (F ++ [e]).length (evCells (F ++ [e])):=by
  have:=own_kept hown ((Kept.refl (In1 Y.xb) w').set1 4 v') (fun x hx2 q=>hne x hx2 q)
  rw [List.length_append,show evCells (F ++ [e])=evCells F ++ e3L e by unfold evCells; simp]
  exact this
 obtain ⟨C1,hC1,hl1,hce1⟩:∃ C1:Nat→Nat,(∀ x,x<w.heap.size→C1 x=C x)∧(∀ x,w.heap.size≤x→C1 x<2000→x<(w'.setCell ⟨Y.xb,4,none⟩ v').heap.size)∧∀ x,v'.ownBlock=some x→C1 x=1006:=by
  rcases ho with o|o
  ·exact ⟨C,fun _ _=>rfl,fun x hx hc=>by have:=h.lt x hc; omega,fun x hx=>h.ce x (by rw [← o]; exact hx)⟩
  ·refine ⟨paint C w.heap.size 1006,fun x hx=>paint_ne (by omega),fun x hx hc=>?_,fun x hx=>?_⟩
   ·by_cases q:x=w.heap.size
    ·rw [q]; have:=(hown.lt _ o).2; simpa using this
    ·rw [paint_ne q] at hc
     have:=h.lt x hc; omega
   ·rw [o] at hx
    obtain rfl:=Option.some.inj hx
    exact paint_at _ _ _
 obtain ⟨cs,js⟩:=h.js
 have o:∀ {x c:Nat},C x=c→c<2000→C1 x=c:=fun {x c} q hc=>(hC1 x (h.lt x (by omega))).trans q
 refine ⟨C1,v',⟨hr2,cell_kept h.ns hK2 (no Y.nb (by omega) (by omega) (by omega)),cell_kept h.nd hK2 (no K.nd (by omega) (by omega) (by omega)),cell_kept h.dd hK2 (no K.nd (by omega) (by omega) (by omega)),cell_kept h.st hK2 (no K.t (by omega) (by omega) (by omega)),⟨cs,cell_kept js hK2 (no K.m (by omega) (by omega) (by omega))⟩,fun d hd=>cell_kept (h.ph d hd) hK2 (no K.gs (by omega) (by omega) (by omega)),hK3.row h.drow hdn,he,by rw [List.length_append]; simp only [List.length_cons,List.length_nil]; omega,h.i7,o h.cx (by omega),o h.cn (by omega),o h.c1 (by omega),o h.c2 (by omega),o h.c3 (by omega),o h.c5 (by omega),o h.c9 (by omega),hce1,fun x hx=>?_⟩,hK2,hC1⟩
 rcases Nat.lt_or_ge x w.heap.size with q|q
 ·exact Nat.lt_of_lt_of_le q hK2.size
 ·exact hl1 x q hx
end
end Go.Proofs.YtadhpkopkkjmfaaGreatDoor
