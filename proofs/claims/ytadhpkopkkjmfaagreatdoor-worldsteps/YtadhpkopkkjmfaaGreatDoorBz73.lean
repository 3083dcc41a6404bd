/-
  On the way to WStepsProof: X6D.
-/
import Derived.Test.YtadhpkopkkjmfaaGreatDoorBz68
set_option maxHeartbeats 8000000
set_option maxRecDepth 100000
namespace Go.Proofs.YtadhpkopkkjmfaaGreatDoor
open Go.RowKit
structure NwH (Q:Exit→Act→World→Prop) (a0:Act) (w0 wr W W3:World) (C:Nat→Nat) (nv:Value) (K:Nat→RB) (aw:Option Addr) (cap k:Nat) (zs:List Int):Prop where
 rn:RWN w0 wr C w0.heap.size nv K aw cap zs k
 k7:k<7
 bl:Below wr.heap.size wr W
 rp:RP W W3.heap.size (zeroB 512) false 0 false
 s3:W3.heap.size=wr.heap.size+1∧W.heap.size=wr.heap.size+2
 q:∀ (a':Act) (w5:World) (g5 c5:Nat),Sm a0 a'→(∃ C' K',RWN w0 (w5.setCell ⟨w0.heap.size,1,none⟩ (.slice (some ⟨g5,0,none⟩) (k+1) c5)) C' w0.heap.size (.slice (some ⟨g5,0,none⟩) (k+1) c5) K' aw cap zs (k+1))→Q .normal a' (w5.setCell ⟨w0.heap.size,1,none⟩ (.slice (some ⟨g5,0,none⟩) (k+1) c5))
 qp:∀ c (d:Nat) v (a:Act) w,Q (.panic c) (a.put (some d) v) w→Q (.panic c) a w
section
variable {Q:Exit→Act→World→Prop} {a0:Act} {w0 wr W W3 w w1:World} {C:Nat→Nat} {a:Act} {nv:Value} {K:Nat→RB} {aw:Option Addr} {cap k:Nat} {zs:List Int} {ld cl lL lD:Bool} {p:Nat} {t mm gn gs gb ls dn:Nat}
theorem NwH.cell (h:NwH Q a0 w0 wr W W3 C nv K aw cap k zs) (hb:Below W.heap.size W w):w.cell? ⟨w0.heap.size,1,none⟩=some nv:=by
 have hr:=(hb.block _ (Nat.lt_of_lt_of_le (row_ltJ h.rn.row) h.bl.size)).trans ((h.bl.block _ (row_ltJ h.rn.row)).trans h.rn.row)
 rw [cell_of_row _ _ _ _ _ _ hr]; rfl
structure NwF (W w1:World) (k r t mm gn gs gb ls dn:Nat):Prop where
 bel:Below W.heap.size W w1
 rj:RJ w1 mm gn gs r (dealL (zeroB 512).data.toList) false
 rs:RSt w1 t mm gb (k:Int) (fun _=>false)
 lo:W.heap.size≤t∧W.heap.size≤mm∧W.heap.size≤gn∧W.heap.size≤gs∧W.heap.size≤gb
 ht:t≠mm∧t≠gn∧t≠gs∧t≠gb
 hg:gb≠mm∧gb≠gn∧gb≠gs
 rl:w1.heap[ls]? = some (.cells #[.pointer none,.pointer none,.pointer none,.pointer none,.pointer none,.pointer none] 188 (0,0))
 rd:w1.heap[dn]? = some (.cells #[.bool false,.bool false,.bool false,.bool false,.bool false,.bool false] 4 (0,0))
 l1:W.heap.size≤ls
 l2:W.heap.size≤dn
 xLD:ls≠dn
 xLS:ls≠t∧ls≠mm∧ls≠gn∧ls≠gs∧ls≠gb
 xDS:dn≠t∧dn≠mm∧dn≠gn∧dn≠gs∧dn≠gb
structure NwB (a0:Act) (W w1 w:World) (a:Act) (nv:Value) (xb k r:Nat) (ld:Bool) (p:Nat) (t mm gn gs gb ls dn:Nat):Prop where
 f:NwF W w1 k r t mm gn gs gb ls dn
 sm:Sm a0 a
 sz:a0.tmps.size=37
 e19:a.eval (.tmp 19)=.pointer (some ⟨xb,0,none⟩)
 e22:a.eval (.tmp 22)=.pointer (some ⟨xb,1,none⟩)
 bel:Below w1.heap.size w1 w
 e23:ld=true→a.eval (.tmp 23)=nv
 p1:p=1→w=w1∧a.eval (.tmp 30)=.agg #[.pointer (some ⟨t,0,none⟩),.pointer (some ⟨r,0,none⟩),.slice (some ⟨ls,0,none⟩) 6 6,.slice (some ⟨dn,0,none⟩) 6 6]
 p2:2≤p→w.heap[w1.heap.size]? = some (.cells #[.pointer (some ⟨t,0,none⟩),.pointer (some ⟨r,0,none⟩),.slice (some ⟨ls,0,none⟩) 6 6,.slice (some ⟨dn,0,none⟩) 6 6] 157 (0,0))
 p3:p=2→a.eval (.tmp 31)=.pointer (some ⟨w1.heap.size,0,none⟩)
 p4:p=3→∃ b,a.eval (.tmp 32)=.slice (some ⟨b,0,none⟩) 1 1∧∀ j u,[Value.pointer (some ⟨w1.heap.size,0,none⟩)][j]? = some u→w.cell? ((⟨b,0,none⟩:Addr).add j)=some u
theorem NwB.size {xb r:Nat} (h:NwB a0 W w1 w a nv xb k r ld p t mm gn gs gb ls dn):a.tmps.size=37:=h.sm.1.trans h.sz
theorem nwb_load {K':Act→World→Prop} (H:NwH Q a0 w0 wr W W3 C nv K aw cap k zs) (h:NwB a0 W w1 w a nv w0.heap.size k W3.heap.size ld p t mm gn gs gb ls dn) (hK:∀ a',NwB a0 W w1 w a' nv w0.heap.size k W3.heap.size true p t mm gn gs gb ls dn→K' a' w):wpOp Tryz.prog nwOps Q 4 K' a w:=by
 have hz:=h.size
 have ne:∀ j,j≠23→(a.put (some 23) nv).eval (.tmp j)=a.eval (.tmp j):=fun j hj=>Act.eval_put_ne _ _ _ _ (Ne.symm hj)
 have hN:NwB a0 W w1 w (a.put (some 23) nv) nv w0.heap.size k W3.heap.size true p t mm gn gs gb ls dn:=⟨h.f,h.sm.put (by omega) (by omega),h.sz,(ne _ (by decide)).trans h.e19,(ne _ (by decide)).trans h.e22,h.bel,fun _=>Act.eval_put_same _ _ _ (by omega),fun q=>⟨(h.p1 q).1,(ne _ (by decide)).trans (h.p1 q).2⟩,h.p2,fun q=>(ne _ (by decide)).trans (h.p3 q),fun q=>by obtain ⟨b,e1,e2⟩:=h.p4 q; exact ⟨b,(ne _ (by decide)).trans e1,e2⟩⟩
 have hc:=H.cell (h.f.bel.trans (h.bel.mono h.f.bel.size))
 refine wpOp_step (o:={ dst:=some 23,op:=Op.load 144 (Operand.tmp 22),type:=144,pos:= "world.go:231",after:=#[{ on:=3,ground:=Ground.data }],guard:=none }) rfl (fun K1 hK1=>?_)
 have e0:=eval_form h.e22
 have HK:=hid (hK1 _ _ (hK _ hN))
 clear hK hK1 h hN hz ne H
 go_simp
 exact HK.out
theorem nwb_build {K':Act→World→Prop} (h:NwI a0 W w a nv w0.heap.size k W3.heap.size ld true true true t mm gn gs gb ls dn) (hK:∀ a',NwB a0 W w w a' nv w0.heap.size k W3.heap.size ld 1 t mm gn gs gb ls dn→K' a' w):wpOp Tryz.prog nwOps Q 11 K' a w:=by
 have hz:=h.size
 obtain ⟨e26,sj,ss,sb,st,sg⟩:=h.site rfl
 obtain ⟨e28,rl,ll⟩:=h.leads rfl
 obtain ⟨e29,rd,ldn⟩:=h.done rfl
 have ne:∀ j,j≠30→(a.put (some 30) (.agg #[.pointer (some ⟨t,0,none⟩),.pointer (some ⟨W3.heap.size,0,none⟩),.slice (some ⟨ls,0,none⟩) 6 6,.slice (some ⟨dn,0,none⟩) 6 6])).eval (.tmp j)=a.eval (.tmp j):=fun j hj=>Act.eval_put_ne _ _ _ _ (Ne.symm hj)
 have hN:NwB a0 W w w (a.put (some 30) (.agg #[.pointer (some ⟨t,0,none⟩),.pointer (some ⟨W3.heap.size,0,none⟩),.slice (some ⟨ls,0,none⟩) 6 6,.slice (some ⟨dn,0,none⟩) 6 6])) nv w0.heap.size k W3.heap.size ld 1 t mm gn gs gb ls dn:=⟨⟨h.bel,sj,ss,sb,st,sg,rl,rd,ll,ldn,h.xLD rfl rfl,h.xLS rfl rfl,h.xDS rfl rfl⟩,h.sm.put (by omega) (by omega),h.sz,(ne _ (by decide)).trans h.e19,(ne _ (by decide)).trans h.e22,Below.refl _ _,fun q=>(ne _ (by decide)).trans (h.e23 q),fun _=>⟨rfl,Act.eval_put_same _ _ _ (by omega)⟩,fun q=>by omega,fun q=>by omega,fun q=>by omega⟩
 refine wpOp_step (o:={ dst:=some 30,op:=Op.build 157 #[(0,Operand.tmp 26),(1,Operand.tmp 27),(2,Operand.tmp 28),(3,Operand.tmp 29)],type:=157,pos:= "world.go:231",after:=#[{ on:=7,ground:=Ground.data },{ on:=8,ground:=Ground.data },{ on:=9,ground:=Ground.data },{ on:=10,ground:=Ground.data }],guard:=none }) rfl (fun K1 hK1=>?_)
 have f26:=eval_form e26; have f27:=eval_form h.e27; have f28:=eval_form e28; have f29:=eval_form e29
 have HK:=hid (hK1 _ _ (hK _ hN))
 clear hK hK1 h hN hz ne
 go_simp
 exact HK.out
theorem nwb_box {K':Act→World→Prop} (h:NwB a0 W w1 w a nv w0.heap.size k W3.heap.size ld 1 t mm gn gs gb ls dn) (hK:∀ a' w',NwB a0 W w1 w' a' nv w0.heap.size k W3.heap.size ld 2 t mm gn gs gb ls dn→K' a' w'):wpOp Tryz.prog nwOps Q 12 K' a w:=by
 have hz:=h.size
 obtain ⟨rfl,e30⟩:=h.p1 rfl
 have ne:∀ j,j≠31→(a.put (some 31) (.pointer (some ⟨w.heap.size,0,none⟩))).eval (.tmp j)=a.eval (.tmp j):=fun j hj=>Act.eval_put_ne _ _ _ _ (Ne.symm hj)
 have hN:NwB a0 W w (w.alloc (.cells #[.pointer (some ⟨t,0,none⟩),.pointer (some ⟨W3.heap.size,0,none⟩),.slice (some ⟨ls,0,none⟩) 6 6,.slice (some ⟨dn,0,none⟩) 6 6] 157)) (a.put (some 31) (.pointer (some ⟨w.heap.size,0,none⟩))) nv w0.heap.size k W3.heap.size ld 2 t mm gn gs gb ls dn:=⟨h.f,h.sm.put (by omega) (by omega),h.sz,(ne _ (by decide)).trans h.e19,(ne _ (by decide)).trans h.e22,(Below.refl _ _).alloc (Nat.le_refl _) _,fun q=>(ne _ (by decide)).trans (h.e23 q),fun q=>by omega,fun _=>heap_alloc_new w _,fun _=>Act.eval_put_same _ _ _ (by omega),fun q=>by omega⟩
 refine wpOp_step (o:={ dst:=some 31,op:=Op.box 157 (Operand.tmp 30),type:=152,pos:= "world.go:231",after:=#[{ on:=11,ground:=Ground.data }],guard:=none }) rfl (fun K1 hK1=>?_)
 have f30:=eval_form e30
 have HK:=hid (hK1 _ _ (hK _ _ hN))
 clear hK hK1 h hN hz ne
 go_simp
 exact HK.out
theorem nwb_lit {K':Act→World→Prop} (h:NwB a0 W w1 w a nv w0.heap.size k W3.heap.size ld 2 t mm gn gs gb ls dn) (hK:∀ a' w',NwB a0 W w1 w' a' nv w0.heap.size k W3.heap.size ld 3 t mm gn gs gb ls dn→K' a' w'):wpOp Tryz.prog nwOps Q 13 K' a w:=by
 have hz:=h.size
 have e31:=h.p3 rfl
 have ne:∀ j,j≠32→(a.put (some 32) (.slice (some ⟨w.heap.size,0,none⟩) 1 1)).eval (.tmp j)=a.eval (.tmp j):=fun j hj=>Act.eval_put_ne _ _ _ _ (Ne.symm hj)
 have hb:Below w1.heap.size w1 (w.alloc (.cells #[.pointer (some ⟨w1.heap.size,0,none⟩)] 152)):=h.bel.alloc h.bel.size _
 have hN:NwB a0 W w1 (w.alloc (.cells #[.pointer (some ⟨w1.heap.size,0,none⟩)] 152)) (a.put (some 32) (.slice (some ⟨w.heap.size,0,none⟩) 1 1)) nv w0.heap.size k W3.heap.size ld 3 t mm gn gs gb ls dn:=⟨h.f,h.sm.put (by omega) (by omega),h.sz,(ne _ (by decide)).trans h.e19,(ne _ (by decide)).trans h.e22,hb,fun q=>(ne _ (by decide)).trans (h.e23 q),fun q=>by omega,fun _=>row_alloc (h.p2 (by omega)),fun q=>by omega,fun _=>⟨_,Act.eval_put_same _ _ _ (by omega),lit_cells w [.pointer (some ⟨w1.heap.size,0,none⟩)] 152⟩⟩
 refine wpOp_step (o:={ dst:=some 32,op:=Op.buildSlice 144 1 #[(0,Operand.tmp 31)],type:=144,pos:= "world.go:231",after:=#[{ on:=12,ground:=Ground.data }],guard:=none }) rfl (fun K1 hK1=>?_)
 have f31:=eval_form e31
 have HK:=hid (hK1 _ _ (hK _ _ hN))
 clear hK hK1 h hN hz ne hb
 go_simp
 exact HK.out
theorem nwb_end (H:NwH Q a0 w0 wr W W3 C nv K aw cap k zs) (h:NwB a0 W w1 w a nv w0.heap.size k W3.heap.size true 3 t mm gn gs gb ls dn):wpAny Tryz.prog .any nwOps Q 4 #[true,true,true,true,true,true,true,true,true,true,true,true,true,true,false,false,false,false] a w:=by
 have HH:=hid H
 have HF:=hid (RWN.fin (hid H.rn) H.k7 (hid H.bl) (hid H.rp) (hid H.s3))
 have HFF:=hid h.f
 have HZ3:=hid h.size
 have m3:=h.sm
 obtain ⟨b32,e32,hlit⟩:=h.p4 rfl
 have HNd:=hid (h.p2 (by omega))
 have g23:=h.e23 rfl
 have g19:=h.e19
 have HB4:=hid h.bel
 have HBW:=hid (h.f.bel.trans (h.bel.mono h.f.bel.size))
 clear h H
 have HOW:Hid (w.ownsRow w0.heap.size 152 1 nv k (rptrs K k)):=own_kept HH.out.rn.ns (Kept.of_below (S:=fun _=>False) (HH.out.bl.trans (HBW.out.mono HH.out.bl.size))) (fun _ _ e=>e)
 have HS4:Hid (w0.heap.size≤w.heap.size):=Nat.le_trans HH.out.rn.bel.size (Nat.le_trans HH.out.bl.size HBW.out.size)
 have hk7:=HH.out.k7
 obtain ⟨i0,hi,hz0,hz1,hz2⟩:=info_parts Tryz.infoPRN

 -- append
 refine wpAny_all (rs:=[14]) (by kernel_rfl) (by simp) (fun j hj=>?_)
 obtain rfl:j=14:=by simpa using hj
 refine wpOp_step (o:={ dst:=some 33,op:=Op.call { callee:=Callee.builtin Builtin.append,args:=#[Operand.tmp 23,Operand.tmp 32],argTypes:=#[144,144] },type:=144,pos:= "world.go:231",after:=#[{ on:=4,ground:=Ground.data },{ on:=13,ground:=Ground.data },{ on:=7,ground:=Ground.chain }],guard:=none }) rfl (fun K1 hK1=>?_)
 refine step_append_lies _ rfl (.tmp 23) (.tmp 32) _ rfl w0.heap.size 152 i0 (.pointer none) 1 8 Tryz.underlying144 hi hz0 hz1 hz2 rfl (by decide) nv k (rptrs K k) g23 HOW.out ⟨b32,0,none⟩ 1 1 [.pointer (some ⟨w1.heap.size,0,none⟩)] e32 rfl hlit (by intro u hu; simp at hu; subst hu; rfl) (by decide) (by unfold maxLen; omega) (by omega) HS4.out w.heap.size rfl ?_
 intro g5 c5 w5 hown5 hg5 hat5 hlt5
 refine hK1 _ _ ?_
 clear hK1 K1 hj
 have HQ5:Hid (∃ C' K',RWN w0 (w5.setCell ⟨w0.heap.size,1,none⟩ (.slice (some ⟨g5,0,none⟩) (k+1) c5)) C' w0.heap.size (.slice (some ⟨g5,0,none⟩) (k+1) c5) K' aw cap zs (k+1)):=by
  have f:=HFF.out
  exact HF.out w w1 w5 t mm gn gs gb ls dn w1.heap.size g5 c5 f.bel HB4.out f.rj f.rs f.lo f.ht f.hg f.xLS f.xDS ⟨f.l1,f.l2,f.xLD,row_ltJ f.rl,row_ltJ f.rd,Nat.le_refl _⟩ HNd.out (row_below HB4.out f.rl) (row_below HB4.out f.rd) hown5 hg5 hat5
 have HC5:Hid (w5.cell? ⟨w0.heap.size,1,none⟩=some nv∧w5.frozen? ⟨w0.heap.size,1,none⟩=false):=by
  have hr4:=(HBW.out.block _ (Nat.lt_of_lt_of_le (row_ltJ HH.out.rn.row) HH.out.bl.size)).trans ((HH.out.bl.block _ (row_ltJ HH.out.rn.row)).trans HH.out.rn.row)
  have hr:=(grown_kept hg5).row hr4 (fun e=>by have h1:=HH.out.rn.cn _ e; have h2:=HH.out.rn.cx; omega)
  exact ⟨by rw [cell_of_row _ _ _ _ _ _ hr]; rfl,frozen_of_row _ _ _ _ _ hr⟩
 change wpAny _ _ _ _ _ _ (Act.put a (some 33) (.slice (some ⟨g5,0,none⟩) (k+1) c5)) _
 obtain ⟨a4,Ha4⟩:∃ x,Hid (x=Act.put a (some 33) (.slice (some ⟨g5,0,none⟩) (k+1) c5)):=⟨_,rfl⟩
 rw [← Ha4.out]
 have HZ4:Hid (a4.tmps.size=37):=by show a4.tmps.size=37; rw [Ha4.out,Act.size_put]; exact HZ3.out
 have m4:Sm a0 a4:=by rw [Ha4.out]; exact m3.put (by omega) (by omega)
 have e33:a4.eval (.tmp 33)=.slice (some ⟨g5,0,none⟩) (k+1) c5:=by rw [Ha4.out]; exact Act.eval_put_same _ _ _ (by have:=HZ3.out; omega)
 have g19:a4.eval (.tmp 19)=.pointer (some ⟨w0.heap.size,0,none⟩):=by rw [Ha4.out,Act.eval_put_ne _ _ _ _ (by decide)]; exact g19
 clear Ha4 hown5 hg5 hat5 hlt5
 -- nilCheck
 refine wpAny_all (rs:=[15]) (by kernel_rfl) (by simp) (fun j hj=>?_)
 obtain rfl:j=15:=by simpa using hj
 refine wpOp_step (o:={ dst:=some 34,op:=Op.nilCheck (Operand.tmp 19),type:=0,pos:= "world.go:231",after:=#[{ on:=0,ground:=Ground.data },{ on:=0,ground:=Ground.phase },{ on:=1,ground:=Ground.phase },{ on:=2,ground:=Ground.phase },{ on:=3,ground:=Ground.phase },{ on:=4,ground:=Ground.phase },{ on:=5,ground:=Ground.phase },{ on:=6,ground:=Ground.phase },{ on:=7,ground:=Ground.phase },{ on:=8,ground:=Ground.phase },{ on:=9,ground:=Ground.phase },{ on:=10,ground:=Ground.phase },{ on:=11,ground:=Ground.phase },{ on:=12,ground:=Ground.phase },{ on:=13,ground:=Ground.phase },{ on:=14,ground:=Ground.phase }],guard:=none }) rfl (fun K1 hK1=>?_)
 have f19:=eval_form g19
 have HK1:=hid hK1
 clear hK1 hj
 go_simp
 refine HK1.out _ _ ?_
 clear HK1 K1 f19
 change wpAny _ _ _ _ _ _ (Act.put a4 (some 34) (.pointer (some ⟨w0.heap.size,0,none⟩))) _
 obtain ⟨a5,Ha5⟩:∃ x,Hid (x=Act.put a4 (some 34) (.pointer (some ⟨w0.heap.size,0,none⟩))):=⟨_,rfl⟩
 rw [← Ha5.out]
 have HZ5:Hid (a5.tmps.size=37):=by show a5.tmps.size=37; rw [Ha5.out,Act.size_put]; exact HZ4.out
 have m5:Sm a0 a5:=by rw [Ha5.out]; exact m4.put (by omega) (by omega)
 have e34:a5.eval (.tmp 34)=.pointer (some ⟨w0.heap.size,0,none⟩):=by rw [Ha5.out]; exact Act.eval_put_same _ _ _ (by have:=HZ4.out; omega)
 have g33:a5.eval (.tmp 33)=.slice (some ⟨g5,0,none⟩) (k+1) c5:=by rw [Ha5.out,Act.eval_put_ne _ _ _ _ (by decide)]; exact e33
 clear Ha5
 -- fieldAddr
 refine wpAny_all (rs:=[16]) (by kernel_rfl) (by simp) (fun j hj=>?_)
 obtain rfl:j=16:=by simpa using hj
 refine wpOp_step (o:={ dst:=some 35,op:=Op.fieldAddr 147 (Operand.tmp 34) 1,type:=0,pos:= "world.go:231",after:=#[{ on:=15,ground:=Ground.data },{ on:=0,ground:=Ground.phase },{ on:=1,ground:=Ground.phase },{ on:=2,ground:=Ground.phase },{ on:=3,ground:=Ground.phase },{ on:=4,ground:=Ground.phase },{ on:=5,ground:=Ground.phase },{ on:=6,ground:=Ground.phase },{ on:=7,ground:=Ground.phase },{ on:=8,ground:=Ground.phase },{ on:=9,ground:=Ground.phase },{ on:=10,ground:=Ground.phase },{ on:=11,ground:=Ground.phase },{ on:=12,ground:=Ground.phase },{ on:=13,ground:=Ground.phase },{ on:=14,ground:=Ground.phase }],guard:=none }) rfl (fun K1 hK1=>?_)
 have f34:=eval_form e34
 have HK1:=hid hK1
 clear hK1 hj
 go_simp
 refine HK1.out _ _ ?_
 clear HK1 K1 f34
 change wpAny _ _ _ _ _ _ (Act.put a5 (some 35) (.pointer (some ⟨w0.heap.size,1,none⟩))) _
 obtain ⟨a6,Ha6⟩:∃ x,Hid (x=Act.put a5 (some 35) (.pointer (some ⟨w0.heap.size,1,none⟩))):=⟨_,rfl⟩
 rw [← Ha6.out]
 have m6:Sm a0 a6:=by rw [Ha6.out]; exact m5.put (by omega) (by omega)
 have e35:a6.eval (.tmp 35)=.pointer (some ⟨w0.heap.size,1,none⟩):=by rw [Ha6.out]; exact Act.eval_put_same _ _ _ (by have:=HZ5.out; omega)
 have g33:a6.eval (.tmp 33)=.slice (some ⟨g5,0,none⟩) (k+1) c5:=by rw [Ha6.out,Act.eval_put_ne _ _ _ _ (by decide)]; exact g33
 clear Ha6
 -- store
 refine wpAny_all (rs:=[17]) (by kernel_rfl) (by simp) (fun j hj=>?_)
 obtain rfl:j=17:=by simpa using hj
 refine wpOp_step (o:={ dst:=none,op:=Op.store 144 (Operand.tmp 35) (Operand.tmp 33),type:=0,pos:= "world.go:231",after:=#[{ on:=16,ground:=Ground.data },{ on:=14,ground:=Ground.data },{ on:=14,ground:=Ground.chain },{ on:=0,ground:=Ground.phase },{ on:=1,ground:=Ground.phase },{ on:=2,ground:=Ground.phase },{ on:=3,ground:=Ground.phase },{ on:=4,ground:=Ground.phase },{ on:=5,ground:=Ground.phase },{ on:=6,ground:=Ground.phase },{ on:=7,ground:=Ground.phase },{ on:=8,ground:=Ground.phase },{ on:=9,ground:=Ground.phase },{ on:=10,ground:=Ground.phase },{ on:=11,ground:=Ground.phase },{ on:=12,ground:=Ground.phase },{ on:=13,ground:=Ground.phase },{ on:=14,ground:=Ground.phase }],guard:=none }) rfl (fun K1 hK1=>?_)
 have f35:=eval_form e35; have f33:=eval_form g33
 obtain ⟨c5',z5'⟩:=HC5.out
 have HK1:=hid hK1
 clear hK1 hj
 go_simp
 refine HK1.out _ _ ?_
 exact wpAny_done (by kernel_rfl) (HH.out.q _ _ _ _ m6 HQ5.out) _
theorem nwb_30 (H:NwH Q a0 w0 wr W W3 C nv K aw cap k zs) (h:NwB a0 W w1 w a nv w0.heap.size k W3.heap.size false 3 t mm gn gs gb ls dn):wpAny Tryz.prog .any nwOps Q 5 #[true,true,true,true,false,true,true,true,true,true,true,true,true,true,false,false,false,false] a w:=by
 refine wpAny_all (rs:=[4]) (by kernel_rfl) (by simp) (fun j hj=>?_)
 have hj':j=4:=by simpa using hj
 rcases hj' with rfl
 ·exact nwb_load H h (fun a' h'=>nwb_end H h')
theorem nwb_21 (H:NwH Q a0 w0 wr W W3 C nv K aw cap k zs) (h:NwB a0 W w1 w a nv w0.heap.size k W3.heap.size true 2 t mm gn gs gb ls dn):wpAny Tryz.prog .any nwOps Q 5 #[true,true,true,true,true,true,true,true,true,true,true,true,true,false,false,false,false,false] a w:=by
 refine wpAny_all (rs:=[13]) (by kernel_rfl) (by simp) (fun j hj=>?_)
 have hj':j=13:=by simpa using hj
 rcases hj' with rfl
 ·exact nwb_lit h (fun a' w' h'=>nwb_end H h')
theorem nwb_20 (H:NwH Q a0 w0 wr W W3 C nv K aw cap k zs) (h:NwB a0 W w1 w a nv w0.heap.size k W3.heap.size false 2 t mm gn gs gb ls dn):wpAny Tryz.prog .any nwOps Q 6 #[true,true,true,true,false,true,true,true,true,true,true,true,true,false,false,false,false,false] a w:=by
 refine wpAny_all (rs:=[4,13]) (by kernel_rfl) (by simp) (fun j hj=>?_)
 have hj':j=4 ∨ j=13:=by simpa using hj
 rcases hj' with rfl|rfl
 ·exact nwb_load H h (fun a' h'=>nwb_21 H h')
 ·exact nwb_lit h (fun a' w' h'=>nwb_30 H h')
theorem nwb_11 (H:NwH Q a0 w0 wr W W3 C nv K aw cap k zs) (h:NwB a0 W w1 w a nv w0.heap.size k W3.heap.size true 1 t mm gn gs gb ls dn):wpAny Tryz.prog .any nwOps Q 6 #[true,true,true,true,true,true,true,true,true,true,true,true,false,false,false,false,false,false] a w:=by
 refine wpAny_all (rs:=[12]) (by kernel_rfl) (by simp) (fun j hj=>?_)
 have hj':j=12:=by simpa using hj
 rcases hj' with rfl
 ·exact nwb_box h (fun a' w' h'=>nwb_21 H h')
theorem nwb_10 (H:NwH Q a0 w0 wr W W3 C nv K aw cap k zs) (h:NwB a0 W w1 w a nv w0.heap.size k W3.heap.size false 1 t mm gn gs gb ls dn):wpAny Tryz.prog .any nwOps Q 7 #[true,true,true,true,false,true,true,true,true,true,true,true,false,false,false,false,false,false] a w:=by
 refine wpAny_all (rs:=[4,12]) (by kernel_rfl) (by simp) (fun j hj=>?_)
 have hj':j=4 ∨ j=12:=by simpa using hj
 rcases hj' with rfl|rfl
 ·exact nwb_load H h (fun a' h'=>nwb_11 H h')
 ·exact nwb_box h (fun a' w' h'=>nwb_20 H h')
theorem nw_1111 (H:NwH Q a0 w0 wr W W3 C nv K aw cap k zs) (h:NwI a0 W w a nv w0.heap.size k W3.heap.size true true true true t mm gn gs gb ls dn):wpAny Tryz.prog .any nwOps Q 7 #[true,true,true,true,true,true,true,true,true,true,true,false,false,false,false,false,false,false] a w:=by
 refine wpAny_all (rs:=[11]) (by kernel_rfl) (by simp) (fun j hj=>?_)
 have hj':j=11:=by simpa using hj
 rcases hj' with rfl
 ·exact nwb_build h (fun a' h'=>nwb_11 H h')
theorem nw_0111 (H:NwH Q a0 w0 wr W W3 C nv K aw cap k zs) (h:NwI a0 W w a nv w0.heap.size k W3.heap.size false true true true t mm gn gs gb ls dn):wpAny Tryz.prog .any nwOps Q 8 #[true,true,true,true,false,true,true,true,true,true,true,false,false,false,false,false,false,false] a w:=by
 refine wpAny_all (rs:=[4,11]) (by kernel_rfl) (by simp) (fun j hj=>?_)
 have hj':j=4 ∨ j=11:=by simpa using hj
 rcases hj' with rfl|rfl
 ·exact nw_load h (H.cell h.bel) (fun a' h'=>nw_1111 H h')
 ·exact nwb_build h (fun a' h'=>nwb_10 H h')
theorem nw_1011 (H:NwH Q a0 w0 wr W W3 C nv K aw cap k zs) (h:NwI a0 W w a nv w0.heap.size k W3.heap.size true false true true t mm gn gs gb ls dn):wpAny Tryz.prog .any nwOps Q 8 #[true,true,true,true,true,true,true,false,true,true,true,false,false,false,false,false,false,false] a w:=by
 refine wpAny_all (rs:=[7]) (by kernel_rfl) (by simp) (fun j hj=>?_)
 have hj':j=7:=by simpa using hj
 rcases hj' with rfl
 ·exact nw_call h H.rp (fun a' w' _ _ _ _ _ h'=>nw_1111 H h')
theorem nw_1101 (H:NwH Q a0 w0 wr W W3 C nv K aw cap k zs) (h:NwI a0 W w a nv w0.heap.size k W3.heap.size true true false true t mm gn gs gb ls dn):wpAny Tryz.prog .any nwOps Q 8 #[true,true,true,true,true,true,true,true,true,false,true,false,false,false,false,false,false,false] a w:=by
 refine wpAny_all (rs:=[9]) (by kernel_rfl) (by simp) (fun j hj=>?_)
 have hj':j=9:=by simpa using hj
 rcases hj' with rfl
 ·exact nw_lead h (fun a' w' _ h'=>nw_1111 H h')
theorem nw_1110 (H:NwH Q a0 w0 wr W W3 C nv K aw cap k zs) (h:NwI a0 W w a nv w0.heap.size k W3.heap.size true true true false t mm gn gs gb ls dn):wpAny Tryz.prog .any nwOps Q 8 #[true,true,true,true,true,true,true,true,true,true,false,false,false,false,false,false,false,false] a w:=by
 refine wpAny_all (rs:=[10]) (by kernel_rfl) (by simp) (fun j hj=>?_)
 have hj':j=10:=by simpa using hj
 rcases hj' with rfl
 ·exact nw_done h (fun a' w' _ h'=>nw_1111 H h')
theorem nw_0011 (H:NwH Q a0 w0 wr W W3 C nv K aw cap k zs) (h:NwI a0 W w a nv w0.heap.size k W3.heap.size false false true true t mm gn gs gb ls dn):wpAny Tryz.prog .any nwOps Q 9 #[true,true,true,true,false,true,true,false,true,true,true,false,false,false,false,false,false,false] a w:=by
 refine wpAny_all (rs:=[4,7]) (by kernel_rfl) (by simp) (fun j hj=>?_)
 have hj':j=4 ∨ j=7:=by simpa using hj
 rcases hj' with rfl|rfl
 ·exact nw_load h (H.cell h.bel) (fun a' h'=>nw_1011 H h')
 ·exact nw_call h H.rp (fun a' w' _ _ _ _ _ h'=>nw_0111 H h')
theorem nw_0101 (H:NwH Q a0 w0 wr W W3 C nv K aw cap k zs) (h:NwI a0 W w a nv w0.heap.size k W3.heap.size false true false true t mm gn gs gb ls dn):wpAny Tryz.prog .any nwOps Q 9 #[true,true,true,true,false,true,true,true,true,false,true,false,false,false,false,false,false,false] a w:=by
 refine wpAny_all (rs:=[4,9]) (by kernel_rfl) (by simp) (fun j hj=>?_)
 have hj':j=4 ∨ j=9:=by simpa using hj
 rcases hj' with rfl|rfl
 ·exact nw_load h (H.cell h.bel) (fun a' h'=>nw_1101 H h')
 ·exact nw_lead h (fun a' w' _ h'=>nw_0111 H h')
theorem nw_0110 (H:NwH Q a0 w0 wr W W3 C nv K aw cap k zs) (h:NwI a0 W w a nv w0.heap.size k W3.heap.size false true true false t mm gn gs gb ls dn):wpAny Tryz.prog .any nwOps Q 9 #[true,true,true,true,false,true,true,true,true,true,false,false,false,false,false,false,false,false] a w:=by
 refine wpAny_all (rs:=[4,10]) (by kernel_rfl) (by simp) (fun j hj=>?_)
 have hj':j=4 ∨ j=10:=by simpa using hj
 rcases hj' with rfl|rfl
 ·exact nw_load h (H.cell h.bel) (fun a' h'=>nw_1110 H h')
 ·exact nw_done h (fun a' w' _ h'=>nw_0111 H h')
theorem nw_1001 (H:NwH Q a0 w0 wr W W3 C nv K aw cap k zs) (h:NwI a0 W w a nv w0.heap.size k W3.heap.size true false false true t mm gn gs gb ls dn):wpAny Tryz.prog .any nwOps Q 9 #[true,true,true,true,true,true,true,false,true,false,true,false,false,false,false,false,false,false] a w:=by
 refine wpAny_all (rs:=[7,9]) (by kernel_rfl) (by simp) (fun j hj=>?_)
 have hj':j=7 ∨ j=9:=by simpa using hj
 rcases hj' with rfl|rfl
 ·exact nw_call h H.rp (fun a' w' _ _ _ _ _ h'=>nw_1101 H h')
 ·exact nw_lead h (fun a' w' _ h'=>nw_1011 H h')
theorem nw_1010 (H:NwH Q a0 w0 wr W W3 C nv K aw cap k zs) (h:NwI a0 W w a nv w0.heap.size k W3.heap.size true false true false t mm gn gs gb ls dn):wpAny Tryz.prog .any nwOps Q 9 #[true,true,true,true,true,true,true,false,true,true,false,false,false,false,false,false,false,false] a w:=by
 refine wpAny_all (rs:=[7,10]) (by kernel_rfl) (by simp) (fun j hj=>?_)
 have hj':j=7 ∨ j=10:=by simpa using hj
 rcases hj' with rfl|rfl
 ·exact nw_call h H.rp (fun a' w' _ _ _ _ _ h'=>nw_1110 H h')
 ·exact nw_done h (fun a' w' _ h'=>nw_1011 H h')
theorem nw_1100 (H:NwH Q a0 w0 wr W W3 C nv K aw cap k zs) (h:NwI a0 W w a nv w0.heap.size k W3.heap.size true true false false t mm gn gs gb ls dn):wpAny Tryz.prog .any nwOps Q 9 #[true,true,true,true,true,true,true,true,true,false,false,false,false,false,false,false,false,false] a w:=by
 refine wpAny_all (rs:=[9,10]) (by kernel_rfl) (by simp) (fun j hj=>?_)
 have hj':j=9 ∨ j=10:=by simpa using hj
 rcases hj' with rfl|rfl
 ·exact nw_lead h (fun a' w' _ h'=>nw_1110 H h')
 ·exact nw_done h (fun a' w' _ h'=>nw_1101 H h')
theorem nw_0001 (H:NwH Q a0 w0 wr W W3 C nv K aw cap k zs) (h:NwI a0 W w a nv w0.heap.size k W3.heap.size false false false true t mm gn gs gb ls dn):wpAny Tryz.prog .any nwOps Q 10 #[true,true,true,true,false,true,true,false,true,false,true,false,false,false,false,false,false,false] a w:=by
 refine wpAny_all (rs:=[4,7,9]) (by kernel_rfl) (by simp) (fun j hj=>?_)
 have hj':j=4 ∨ j=7 ∨ j=9:=by simpa using hj
 rcases hj' with rfl|rfl|rfl
 ·exact nw_load h (H.cell h.bel) (fun a' h'=>nw_1001 H h')
 ·exact nw_call h H.rp (fun a' w' _ _ _ _ _ h'=>nw_0101 H h')
 ·exact nw_lead h (fun a' w' _ h'=>nw_0011 H h')
theorem nw_0010 (H:NwH Q a0 w0 wr W W3 C nv K aw cap k zs) (h:NwI a0 W w a nv w0.heap.size k W3.heap.size false false true false t mm gn gs gb ls dn):wpAny Tryz.prog .any nwOps Q 10 #[true,true,true,true,false,true,true,false,true,true,false,false,false,false,false,false,false,false] a w:=by
 refine wpAny_all (rs:=[4,7,10]) (by kernel_rfl) (by simp) (fun j hj=>?_)
 have hj':j=4 ∨ j=7 ∨ j=10:=by simpa using hj
 rcases hj' with rfl|rfl|rfl
 ·exact nw_load h (H.cell h.bel) (fun a' h'=>nw_1010 H h')
 ·exact nw_call h H.rp (fun a' w' _ _ _ _ _ h'=>nw_0110 H h')
 ·exact nw_done h (fun a' w' _ h'=>nw_0011 H h')
theorem nw_0100 (H:NwH Q a0 w0 wr W W3 C nv K aw cap k zs) (h:NwI a0 W w a nv w0.heap.size k W3.heap.size false true false false t mm gn gs gb ls dn):wpAny Tryz.prog .any nwOps Q 10 #[true,true,true,true,false,true,true,true,true,false,false,false,false,false,false,false,false,false] a w:=by
 refine wpAny_all (rs:=[4,9,10]) (by kernel_rfl) (by simp) (fun j hj=>?_)
 have hj':j=4 ∨ j=9 ∨ j=10:=by simpa using hj
 rcases hj' with rfl|rfl|rfl
 ·exact nw_load h (H.cell h.bel) (fun a' h'=>nw_1100 H h')
 ·exact nw_lead h (fun a' w' _ h'=>nw_0110 H h')
 ·exact nw_done h (fun a' w' _ h'=>nw_0101 H h')
theorem nw_1000 (H:NwH Q a0 w0 wr W W3 C nv K aw cap k zs) (h:NwI a0 W w a nv w0.heap.size k W3.heap.size true false false false t mm gn gs gb ls dn):wpAny Tryz.prog .any nwOps Q 10 #[true,true,true,true,true,true,true,false,true,false,false,false,false,false,false,false,false,false] a w:=by
 refine wpAny_all (rs:=[7,9,10]) (by kernel_rfl) (by simp) (fun j hj=>?_)
 have hj':j=7 ∨ j=9 ∨ j=10:=by simpa using hj
 rcases hj' with rfl|rfl|rfl
 ·exact nw_call h H.rp (fun a' w' _ _ _ _ _ h'=>nw_1100 H h')
 ·exact nw_lead h (fun a' w' _ h'=>nw_1010 H h')
 ·exact nw_done h (fun a' w' _ h'=>nw_1001 H h')
theorem nw_0000 (H:NwH Q a0 w0 wr W W3 C nv K aw cap k zs) (h:NwI a0 W w a nv w0.heap.size k W3.heap.size false false false false t mm gn gs gb ls dn):wpAny Tryz.prog .any nwOps Q 11 #[true,true,true,true,false,true,true,false,true,false,false,false,false,false,false,false,false,false] a w:=by
 refine wpAny_all (rs:=[4,7,9,10]) (by kernel_rfl) (by simp) (fun j hj=>?_)
 have hj':j=4 ∨ j=7 ∨ j=9 ∨ j=10:=by simpa using hj
 rcases hj' with rfl|rfl|rfl|rfl
 ·exact nw_load h (H.cell h.bel) (fun a' h'=>nw_1000 H h')
 ·exact nw_call h H.rp (fun a' w' _ _ _ _ _ h'=>nw_0100 H h')
 ·exact nw_lead h (fun a' w' _ h'=>nw_0010 H h')
 ·exact nw_done h (fun a' w' _ h'=>nw_0001 H h')
end
end Go.Proofs.YtadhpkopkkjmfaaGreatDoor
