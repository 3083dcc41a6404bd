/-
  On the way to WStepsProof, WCommitsProof, WAgreesProof, WEndsProof, WWaitsProof, JTampersProof, PAgreesProof, PAgainProof: VO VP VQ VR VS VT.
-/
import Derived.Test.YtadhpkopkkjmfaaGreatDoorBz42
import Derived.Lib.MinMax
set_option maxHeartbeats 8000000
set_option maxRecDepth 100000
namespace Go.Proofs.YtadhpkopkkjmfaaGreatDoor
open Go.RowKit
section
variable {w0 w w':World} {C:Nat→Nat} {K:NB} {X:XB} {i m m':Nat} {zs:List Int} {N:PN} {V V':PX} {A:Nat→Addr}
theorem XI.take {k:Nat} (h:XI zs V m):XI zs (takeX V k) m :=
 ⟨h.he,h.nd,fun f hf=>h.fr f (List.mem_of_mem_eraseIdx hf),Nat.le_trans (List.length_eraseIdx_le _ _) h.fl,h.ev⟩
theorem WD.flyForm (h:WD w0 w C X zs V m) (hn:0<V.fly.length):∃ g o cap,∃ cur:Array Value,X.fv=.slice (some ⟨g,o,none⟩) V.fly.length cap∧w0.heap.size≤g∧w.heap[g]? = some (.cells cur 104 (0,0))∧V.fly.length≤cap∧cap≤maxLen∧o+cap * 9≤cur.size∧∀ j,j<V.fly.length * 9→cur[o+j]? = (frCells V.fly)[j]?:=by
 rcases h.fly with ⟨-,h0⟩|⟨g,o,cap,cur,h1,h2,h3,h4,h5,h6,h7⟩
 ·rw [h0] at hn; simp at hn
 ·exact ⟨g,o,cap,cur,h1,h2,h3,h4,h5,h6,h7⟩
theorem WD.taken {k g o o1 cap cap1:Nat} (h:WD w0 w C X zs V m) (hv:X.fv=.slice (some ⟨g,o,none⟩) V.fly.length cap) (hown:OwnF w' w0.heap.size (.slice (some ⟨g,o1,none⟩) (V.fly.length - 1) cap1) (V.fly.eraseIdx k)) (hkk:Kept (In1 g) w w') :
  WOut w0 w (w'.setCell ⟨X.xb,3,none⟩ (.slice (some ⟨g,o1,none⟩) (V.fly.length - 1) cap1)) C X zs (takeX V k) m:=by
 have cg:C g=1005:=h.cf g (by rw [hv]; rfl)
 have hcx:=h.cx
 have hgx:g≠X.xb:=fun e=>by rw [e] at cg; omega
 have hrow:w'.heap[X.xb]? = some (.cells (wdC X zs.length).toArray 84 (0,0)):=hkk.row h.row (fun e=>hgx (show X.xb=g from e).symm)
 have hS:∀ x,(x=X.xb ∨ x=g)→C x=1001 ∨ C x=1005 ∨ C x=1006:=fun x hx=>by
  rcases hx with rfl|rfl
  ·exact .inl h.cx
  ·exact .inr (.inl cg)
 have hK2:Kept (fun x=>x=X.xb ∨ x=g) w (w'.setCell ⟨X.xb,3,none⟩ (.slice (some ⟨g,o1,none⟩) (V.fly.length - 1) cap1)):=(hkk.mono (fun x hx=>.inr hx)).setCell (.inl rfl) _
 refine ⟨C,{ X with fv:=.slice (some ⟨g,o1,none⟩) (V.fly.length - 1) cap1 },?_,rfl,hK2.mono (fun x hx=>by show C x<2000; rcases hS x hx with q|q|q <;> omega),fun _ _=>rfl⟩
 refine h.own (ev:=X.ev) (E:=V.evs) (F:=V.fly.eraseIdx k) hK2 hS (fun _ _=>rfl) (fun x hx hc=>by have:=h.lt x hc; omega) ?_ ?_ ?_ ?_ h.ce (Nat.le_refl _) h.inv.take
 ·rw [heap_setCell_same w' X.xb 3 _ _ _ hrow]; rfl
 ·exact hown.kept ((Kept.refl (In1 X.xb) w').set1 3 _) (fun y hy e=>by
   have:g=y:=Option.some.inj hy
   rw [← this] at e
   exact hgx e)
 ·exact own_kept h.evs hK2 (fun y hy e=>by
   have h6:=h.ce y hy
   rcases e with rfl|rfl
   ·omega
   ·omega)
 ·intro y hy
  have:g=y:=Option.some.inj hy
  rw [← this]; exact cg
theorem fly_cells {g o k:Nat} {cur:Array Value} {L:List F9} (hg:w.heap[g]? = some (.cells cur 104 (0,0))) (ht:∀ j,j<L.length * 9→cur[o+j]? = (frCells L)[j]?) (hk:k<L.length):∀ j,j<9→w.cell? ⟨g,o+k * 9+j,none⟩=(f9L (L[k]'hk))[j]?:=by
 intro j hj
 rw [cell_of_row _ _ _ _ _ _ hg,← frCells_get L k j hk hj,← ht _ (by omega),Nat.add_assoc]
theorem OwnF.moved {base g o o1 k cap:Nat} {cur:Array Value} {L:List F9} (hb:base≤g) (hg:w.heap[g]? = some (.cells cur 104 (0,0))) (hk:k<L.length) (hle:L.length≤cap) (hcap:cap≤maxLen) (hsz:o+cap * 9≤cur.size) (hc:∀ j,j<L.length * 9→cur[o+j]? = (frCells L)[j]?) (ho:o1=if cap=1 then o else o+9) :
  OwnF (w.setCells g o1 (frCells (L.take k))) base (.slice (some ⟨g,o1,none⟩) (L.length - 1) (cap - 1)) (L.eraseIdx k)∧(frCells (L.take k)).length=k * 9∧o1+k * 9≤cur.size:=by
 have hl:(frCells (L.take k)).length=k * 9:=by rw [frCells_length,List.length_take,Nat.min_eq_left (Nat.le_of_lt hk)]
 have hel:(L.eraseIdx k).length=L.length - 1:=List.length_eraseIdx_of_lt hk
 have hfit:o1+k * 9≤cur.size:=by
  rw [ho]; split <;> omega
 refine ⟨?_,hl,hfit⟩
 have hr:=row_setCells (frCells (L.take k)) o1 w cur hg (by rw [hl]; exact hfit)
 refine .inr ⟨g,o1,cap - 1,_,by rw [hel],hb,hr,by rw [hel]; omega,by omega,?_,fun j hj=>?_⟩
 ·rw [List.size_toArray,List.length_append,List.length_append,List.length_take,List.length_drop,Array.length_toList (xs:=cur),hl,ho]
  split <;> omega
 ·rw [hel] at hj
  have ho9:o1=o+9:=by rw [ho,if_neg (by omega)]
  rw [List.getElem?_toArray,get_spliced _ _ _ _ (by rw [Array.length_toList (xs:=cur),hl]; exact hfit),if_neg (by omega),hl,List.eraseIdx_eq_take_drop_succ,frCells_append]
  by_cases h1:j<k * 9
  ·rw [if_pos (by omega),List.getElem?_append_left (by rw [hl]; exact h1)]
   congr 1
   omega
  ·rw [if_neg (by omega),List.getElem?_append_right (by rw [hl]; omega),hl,Array.getElem?_toList,ho9,Nat.add_assoc,hc _ (by omega),frCells_drop,List.getElem?_drop]
   congr 1
   omega
theorem WD.far {S:Nat→Prop} (h:WD w0 w C X zs V m) (k:Kept S w w') (hS:∀ x,S x→2000≤C x) (hb:∀ x,S x→w0.heap.size≤x):WD w0 w' C X zs V m:=by
 obtain ⟨D,hD,hh⟩:=h.brk
 have n7:=h.n7
 have e1:=h.cx; have e2:=h.cw; have e3:=h.cn; have e4:=h.cm
 have no:∀ x,C x<2000→¬ S x:=fun x hx hs=>by have:=hS x hs; omega
 exact ⟨k.below h.bel.size hb h.bel,k.row h.row (no _ (by omega)),fun i hi=>cell_kept (h.ws i hi) k (no _ (by show C X.wb<2000; omega)),fun i hi=>cell_kept (h.ns i hi) k (no _ (by show C X.nb<2000; omega)),fun i hi=>(h.nds i hi).kept k (fun x _ hx=>no x (by omega)) hb,
  ⟨D,ownsMap_kept hD k (no _ (by omega)),hh⟩,h.fly.kept k (fun g hg=>no g (by have:=h.cf g hg; omega)),own_kept h.evs k (fun g hg=>no g (by have:=h.ce g hg; omega)),h.cx,h.cw,h.cn,h.cm,h.cf,h.ce,fun x hx=>Nat.lt_of_lt_of_le (h.lt x hx) k.size,h.low,h.inv⟩
theorem take_end {W4 Y:World} {C':Nat→Nat} {X':XB} {h:Nat} (g1:WD w0 W4 C' X' zs V' m) (g2:key X'=key X) (g3:Kept (OwnX C) w W4) (g4:∀ x,x<w.heap.size→C' x=C x) (hk:Kept (In1 h) W4 Y) (hl:w.heap.size≤h) (hn:2000≤C' h) (h0:w0.heap.size≤h):WOut w0 w Y C X zs V' m :=
 ⟨C',X',g1.far hk (fun x hx=>by rw [show x=h from hx]; exact hn) (fun x hx=>by rw [show x=h from hx]; exact h0),g2,⟨hk.os.trans g3.os,hk.tape.trans g3.tape,hk.output.trans g3.output,Nat.le_trans g3.size hk.size,fun y hy hs=>(hk.block y (Nat.lt_of_lt_of_le hy g3.size) (fun e=>by have:y=h:=e; omega)).trans (g3.block y hy hs)⟩,g4⟩
theorem take_ok (k:Nat) (F:F9) (h:WD w0 w C X zs V m) (hk:k<V.fly.length) (hF:V.fly[k]'hk=F) (hm:m≤100000000) :
  Calls Tryz.prog 61 #[.pointer (some ⟨X.xb,0,none⟩),.int .i64 (k:Int)] w fun e w'=>e=.returned (frV F.f F.t F.d F.k F.a F.y F.ph F.pr F.pa)∧WOut w0 w w' C X zs (takeX V k) m:=by
 obtain ⟨g,o,cap,cur,hv,h2,h3,h4,h5,h6,h7⟩:=h.flyForm (by omega)
 have hcl:=fly_cells h3 h7 hk
 rw [hF] at hcl
 obtain ⟨ff,ft,fd,fk,fa,fy,fh,fp,fq⟩:=F
 obtain ⟨W1,HW1⟩:∃ W1,Hid (w.alloc (.cells #[.int .i64 0,.int .i64 0,.int .i64 0,.int .i64 0,.int .i64 0,.bool false,.int .i64 0,.int .i64 0,.int .i64 0] 104)=W1):=⟨_,rfl⟩
 have HB1:Hid (Below w.heap.size w W1):=by rw [← HW1.out]; exact (Below.refl _ _).alloc (Nat.le_refl _) _
 have HR1:Hid (W1.heap[w.heap.size]? = some (.cells #[.int .i64 0,.int .i64 0,.int .i64 0,.int .i64 0,.int .i64 0,.bool false,.int .i64 0,.int .i64 0,.int .i64 0] 104 (0,0))):=by rw [← HW1.out]; exact heap_alloc_new w _
 have hs1:W1.heap.size=w.heap.size+1:=by rw [← HW1.out]; simp
 obtain ⟨W2,HW2⟩:∃ W2,Hid (W1.alloc (.cells #[.int .i64 ff,.int .i64 ft,.int .i64 fd,.int .i64 fk,.int .i64 fa,.bool fy,.int .i64 fh,.int .i64 fp,.int .i64 fq] 104)=W2):=⟨_,rfl⟩
 have HB2:Hid (Below w.heap.size w W2):=by rw [← HW2.out]; exact HB1.out.alloc HB1.out.size _
 have HR2:Hid (W2.heap[w.heap.size]? = some (.cells #[.int .i64 0,.int .i64 0,.int .i64 0,.int .i64 0,.int .i64 0,.bool false,.int .i64 0,.int .i64 0,.int .i64 0] 104 (0,0))):=by rw [← HW2.out]; exact (Below.heap_alloc W1 _ _ (row_ltJ HR1.out)).trans HR1.out
 have HR3:Hid (W2.heap[w.heap.size+1]? = some (.cells #[.int .i64 ff,.int .i64 ft,.int .i64 fd,.int .i64 fk,.int .i64 fa,.bool fy,.int .i64 fh,.int .i64 fp,.int .i64 fq] 104 (0,0))):=by rw [← HW2.out,← hs1]; exact heap_alloc_new W1 _
 have hlg:=row_ltJ h3
 have hlx:=row_ltJ h.row
 have H:=hid h
 have HWD:=hid (h.later HB2.out)
 have hg2:W2.heap[g]? = some (.cells cur 104 (0,0)):=(HB2.out.block _ hlg).trans h3
 obtain ⟨o1,ho1⟩:∃ o1,o1=if cap=1 then o else o+9:=⟨_,rfl⟩
 obtain ⟨q1,q2,q3⟩:=OwnF.moved (w:=W2.drew) h2 hg2 hk h4 h5 h6 h7 ho1
 obtain ⟨W3,HW3⟩:∃ W3,Hid (W2.drew.setCells g o1 (frCells (V.fly.take k))=W3):=⟨_,rfl⟩
 have hcp:∀ ty dc sc,(Builtin.copy_ #[34,34] ty #[.slice (some ⟨g,o1,none⟩) k dc,.slice (some ⟨g,o,none⟩) k sc]).run Tryz.prog W2.drew=.ok (goInt (k:Int)) W3:=fun ty dc sc=>by
  rw [← HW3.out]
  exact run_copy_frs W2.drew 34 ty g o1 k dc ⟨g,o,none⟩ k sc k (frCells (V.fly.take k)) (by simp only [Nat.min_def]; split <;> omega) q2
   (fun j v hj=>by
    have hjl:=(List.getElem?_eq_some_iff.1 hj).1
    rw [q2] at hjl
    rw [addr_add]
    show W2.cell? ⟨g,o+j,none⟩=some v
    rw [cell_of_row _ _ _ _ _ _ hg2,h7 _ (by omega),← hj,frCells_take,List.getElem?_take_of_lt hjl])
   (fun j hj=>by rw [q2] at hj; show (W2.cell? _).isSome=true; rw [cell_of_row _ _ _ _ _ _ hg2,Array.getElem?_eq_getElem (by omega)]; rfl) (fun j _=>frozen_of_row W2 _ _ _ _ hg2) (frCells_one _)
 rw [HW3.out] at q1
 have HK3:Hid (Kept (In1 g) W2 W3):=by rw [← HW3.out]; exact (Kept.refl _ W2).drew.trans (kept_setCells g _ _ _)
 have cg:C g=1005:=h.cf g (by rw [hv]; rfl)
 have hcx:=h.cx
 have hgx:g≠X.xb:=fun e=>by rw [e] at cg; omega
 have HT:=hid (HWD.out.taken hv q1 HK3.out)
 obtain ⟨n,hn⟩:∃ n,Hid (V.fly.length=n):=⟨_,rfl⟩
 have hbig:V.fly.length≤1000000000000:=by have:=h.inv.fl; omega
 have hrow3:=HK3.out.row HWD.out.row (fun e=>hgx (show X.xb=g from e).symm)
 have c3:=(h.cells).2.2.2.1
 rw [hv] at c3
 have c3W1:=cell_later HB1.out c3
 have c3W2:=cell_later HB2.out c3
 have c3W3:W3.cell? ⟨X.xb,3,none⟩=some (.slice (some ⟨g,o,none⟩) V.fly.length cap):=by rw [cell_of_row _ _ _ _ _ _ hrow3,← hv]; rfl
 have z3W3:W3.frozen? ⟨X.xb,3,none⟩=false:=frozen_of_row _ _ _ _ _ hrow3
 rw [hn.out] at HT c3 c3W1 c3W2 c3W3 hk hbig h4
 obtain ⟨W4,HW4⟩:∃ W4,Hid (W3.setCell ⟨X.xb,3,none⟩ (.slice (some ⟨g,o1,none⟩) (n - 1) (cap - 1))=W4):=⟨_,rfl⟩
 rw [HW4.out] at HT
 have HK4:Hid (Kept (fun x=>x=X.xb ∨ x=g) W2 W4):=by rw [← HW4.out]; exact (HK3.out.mono (fun x hx=>.inr hx)).setCell (.inl rfl) _
 have HR4:=hid (HK4.out.row HR2.out (fun e=>by rcases e with e|e <;> omega))
 have HR5:=hid (HK4.out.row HR3.out (fun e=>by rcases e with e|e <;> omega))
 obtain ⟨Y,HY,HYR,HYK⟩:=stored9 HR4.out ff ft fd fk fa fy fh fp fq
 obtain ⟨z0,z1,z2,z3,z4,z5,z6,z7,z8⟩:=nine (f:=0) (t:=0) (d:=0) (k:=0) (a:=0) (y:=false) (ph:=0) (pr:=0) (pa:=0) HR4.out
 obtain ⟨f0,f1,f2,f3,f4,f5,f6,f7,f8⟩:=frozen9 HR4.out
 obtain ⟨e0,e1,e2,e3,e4,e5,e6,e7,e8⟩:=nine HR5.out
 have HN:Hid (2000≤C w.heap.size):=by
  rcases Nat.lt_or_ge (C w.heap.size) 2000 with q|q
  ·have:=h.lt _ q; omega
  ·exact q
 obtain ⟨b0,b1,b2,b3,b4,b5,b6,b7,b8⟩:=nineO (o:=o+k * 9) hcl
 simp only at b0 b1 b2 b3 b4 b5 b6 b7 b8
 have y0:=cell_later HB1.out b0
 have y1:=cell_later HB1.out b1
 have y2:=cell_later HB1.out b2
 have y3:=cell_later HB1.out b3
 have y4:=cell_later HB1.out b4
 have y5:=cell_later HB1.out b5
 have y6:=cell_later HB1.out b6
 have y7:=cell_later HB1.out b7
 have y8:=cell_later HB1.out b8
 have hW1:=HW1.out
 have hW2:=HW2.out
 have hW3:=HW3.out
 have hW4:=HW4.out
 have HO1:=hid ho1
 clear h hv h2 h3 h5 h6 h7 cg hcl hF hg2 q1 q2 q3 ho1 hrow3 b0 b1 b2 b3 b4 b5 b6 b7 b8 hW3
 have hA1:(if cap=1 then some (⟨g,o,none⟩:Addr) else some ⟨g,o+9,none⟩)=some ⟨g,o1,none⟩:=by rw [HO1.out]; split <;> rfl
 have hw1:IntKind.i64.wrap ((k:Int)+1)=(k:Int)+1:=by rw [IntKind.wrap_i64]; omega
 have hb1:(0:Int)≤(k:Int)+1:=by omega
 have hb2:(k:Int)+1≤(cap:Int):=by omega
 have hb3:(1:Int)≤max ((k:Int)+1) 0:=by omega
 have hb4:((k:Int)+1).toNat - 1=k:=by omega
 have hb5:(k:Int)≤(cap:Int):=by omega
 have hb6:(1:Int)≤(n:Int):=by omega
 have hb7:1≤n:=by omega
 have hb8:(1:Int)≤(k:Int)+1:=by omega
 go_enter Tryz.func61,Tryz.ntmps61
 go_wp2_with fail
 go_region_law (refine step_copy_runF rfl _ _ 34 34 rfl _ _ (by simp [Act.eval,Act.put]) (by simp [Act.eval,Act.put]) (hcp _ _ _) ?_)
 all_goals go_wp2_with fail
 all_goals rw [HY.out]
 all_goals refine bodyPost_ret (results_cell_row rfl _ _ w.heap.size 104 _ (0,0) _ rfl (HYR.out) Tryz.underlying104 rfl (by kernel_rfl)) rfl ?_
 all_goals refine ⟨rfl,?_⟩
 all_goals obtain ⟨C',X',g1,g2,g3,g4⟩:=HT.out
 all_goals exact take_end g1 g2 ((Kept.of_below HB2.out).trans g3) (fun x hx=>g4 x (Nat.lt_of_lt_of_le hx HB2.out.size)) HYK.out (Nat.le_refl _) (by rw [g4 _ (row_ltJ HR2.out)]; exact HN.out) H.out.bel.size
theorem drop_no (s:Int) (h:WD w0 w C X zs V m) (hE:Held9 w0 A) (hs:¬ (0≤s∧s<V.fly.length)) :
  Calls Tryz.prog 38 #[.pointer (some ⟨X.xb,0,none⟩),.int .i64 s] w fun e w'=>e=.returned (ev A 4)∧w'=w:=by
 have H:=hid h
 have HB:=hid (decide_eq_false hs)
 have g3:=(h.held hE).var 3 (by decide)
 have g3':w.cell? ⟨1,0,none⟩=some (.iface 276 (.pointer (some (A 3)))):=g3
 clear h hE hs g3
 go_enter Tryz.func38,Tryz.ntmps38
 go_wp2_with fail
 refine (flies_is s false H.out HB.out).mono ?_
 rintro e w1 ⟨rfl,hx⟩
 subst w1
 go_wp2_with fail
 go_ret
 exact ⟨rfl,rfl⟩
theorem drop_ok (k:Nat) (h:WD w0 w C X zs V m) (hk:k<V.fly.length) (hm:m≤100000000) :
  Calls Tryz.prog 38 #[.pointer (some ⟨X.xb,0,none⟩),.int .i64 (k:Int)] w fun e w'=>e=.returned .nilIface∧WOut w0 w w' C X zs (takeX V k) m:=by
 have H:=hid h
 have HB:Hid (decide (0≤(k:Int)∧(k:Int)<V.fly.length)=true):=decide_eq_true (by omega)
 have HT:=hid (take_ok k _ h hk rfl hm)
 clear h
 go_enter Tryz.func38,Tryz.ntmps38
 go_wp2_with fail
 refine (flies_is (k:Int) true H.out HB.out).mono ?_
 rintro e w1 ⟨rfl,hx⟩
 subst w1
 go_wp2_with fail
 refine HT.out.mono ?_
 rintro e w1 ⟨rfl,hw1⟩
 have HO:=hid hw1
 clear hw1
 go_wp2_with fail
 go_ret
 exact ⟨rfl,HO.out⟩
end
theorem sizePair:(Tryz.prog.info? 124).map (·.size)=some 2:=by kernel_rfl
theorem set2 {w:World} {g:Nat} {a b:Value} {t:TypeId} (h:w.heap[g]? = some (.cells #[a,b] t (0,0))) (x0 x1:Value) :
  ((w.setCell ⟨g,0,none⟩ x0).setCell ⟨g,1,none⟩ x1).heap[g]? = some (.cells #[x0,x1] t (0,0)):=by
 have h0:=heap_setCell_same w g 0 _ _ x0 h
 have h1:=heap_setCell_same _ g 1 _ _ x1 h0
 rw [h1]; rfl
theorem between_p (a b:Nat) (w:World) :
  Calls Tryz.prog 76 #[.int .i64 (a:Int),.int .i64 (b:Int)] w fun e w'=>e=.returned (pairV (min a b) (max a b))∧Below w.heap.size w w':=by
 have e1:((min a b:Nat):Int)=min (a:Int) b:=by omega
 have e2:((max a b:Nat):Int)=max (a:Int) b:=by omega
 unfold pairV
 rw [e1,e2]
 go_enter Tryz.func76,Tryz.ntmps76
 go_wp2_with fail
 refine bodyPost_ret (results_cell_row rfl _ _ w.heap.size 124 _ (0,0) _ rfl (heap_alloc_new w _) Tryz.underlying124 rfl sizePair) rfl ?_
 exact ⟨rfl,(Below.refl _ _).alloc (Nat.le_refl _) _⟩
theorem Tryz.laidP:laidOutB Tryz.prog=true:=by kernel_rfl
theorem pdec:(decide (124<Tryz.prog.types.size))=true:=by kernel_rfl
theorem plaw:Maps.Keyed Tryz.prog 124:=Maps.Keyed.of_law (deep_law_laid Tryz.laidP (m:=2) (by omega) (of_decide_eq_true pdec) (by kernel_rfl) (by rw [Tryz.underlying124]))
theorem pkeys:((List.range 7).all fun a=>(List.range 7).all fun b=>(keyOf Tryz.prog 124 (pairV a b)).isSome)=true:=by kernel_rfl
theorem pkey_some (a b:Nat) (ha:a<7) (hb:b<7):∃ l,keyOf Tryz.prog 124 (pairV a b)=some l:=by
 have:=List.all_eq_true.1 (List.all_eq_true.1 pkeys a (List.mem_range.2 ha)) b (List.mem_range.2 hb)
 exact Option.isSome_iff_exists.1 this
theorem power_b (p q:Nat) (B:ByteArray) (l:Int) (b:Bool) (w:World) (h:Pl w p q B l) (hb:(l != -2)=b) :
  Calls Tryz.prog 79 #[.pointer (some ⟨p,0,none⟩)] w fun e w'=>e=.returned (.bool b)∧w'=w:=by
 rw [← hb]; exact power_any p q B l w h
theorem Pl.drewQ {w:World} {p q:Nat} {B:ByteArray} {l:Int} (h:Pl w p q B l) (k:Nat):Pl (w.drewN k) p q B l:=⟨h.ne,h.head,h.row⟩
theorem munitP (w:World):(zeroValue 126).run Tryz.prog w=.ok (.agg #[]) w:=by kernel_rfl
section
variable {w0 w w':World} {C:Nat→Nat} {K:NB} {X:XB} {i m m':Nat} {zs:List Int} {N:PN} {V V':PX} {A:Nat→Addr}
theorem WD.look (h:WD w0 w C X zs V m):∃ o,w.heap[X.mb]? = some o∧∀ w',w'.heap[X.mb]? = some o→∀ a b,a<7→b<7→(Instr.lookup 81 (.map (some X.mb)) (pairV a b) true).run Tryz.prog w'=.ok (.tuple #[.agg #[],.bool (V.br a b)]) w':=by
 obtain ⟨D,hD,hh⟩:=h.brk
 obtain ⟨es,cl,hb,hr⟩:=hD
 refine ⟨_,hb,fun w' hb' a b ha hb2=>?_⟩
 have hD':w'.ownsMap Tryz.prog 124 unitElem X.mb m D:=⟨es,cl,hb',hr⟩
 obtain ⟨l,hl⟩:=pkey_some a b ha hb2
 obtain ⟨v,ps,hrun,hv⟩:=hD'.look_ok plaw Tryz.underlying81 (munitP w') (zd:=.agg []) (zp:=[]) unitElem_mk hl
 obtain ⟨rfl,_⟩:=unitElem_inv hv
 rw [hrun,hh a b ha hb2 l hl]
theorem reaches_is (f d k a ph pr pa:Nat) (y:Bool) (r:Bool) (h:WD w0 w C X zs V m) (hf:f<zs.length) (hi:i<zs.length) (hr:reachB V (frN f i d k a y ph pr pa)=r) :
  Calls Tryz.prog 62 #[.pointer (some ⟨X.xb,0,none⟩),frV (f:Int) (i:Int) (d:Int) (k:Int) (a:Int) y (ph:Int) (pr:Int) (pa:Int)] w fun e w'=>e=.returned (.bool r)∧Below w.heap.size w w':=by
 obtain ⟨W,HW⟩:∃ W,Hid (w.alloc (.cells #[.int .i64 (f:Int),.int .i64 (i:Int),.int .i64 (d:Int),.int .i64 (k:Int),.int .i64 (a:Int),.bool y,.int .i64 (ph:Int),.int .i64 (pr:Int),.int .i64 (pa:Int)] 104)=W):=⟨_,rfl⟩
 have HB:Hid (Below w.heap.size w W):=by rw [← HW.out]; exact (Below.refl _ _).alloc (Nat.le_refl _) _
 have HR:Hid (W.heap[w.heap.size]? = some (.cells #[.int .i64 (f:Int),.int .i64 (i:Int),.int .i64 (d:Int),.int .i64 (k:Int),.int .i64 (a:Int),.bool y,.int .i64 (ph:Int),.int .i64 (pr:Int),.int .i64 (pa:Int)] 104 (0,0))):=by rw [← HW.out]; exact heap_alloc_new w _
 obtain ⟨b0,b1,b2,b3,b4,b5,b6,b7,b8⟩:=nine HR.out
 have H0:=hid h
 have H1:=hid (h.later HB.out)
 have HI:=hid hi
 have HF:=hid hf
 have n7:=h.n7
 obtain ⟨-,c1,c2,-,-⟩:=H1.out.cells
 obtain ⟨o,ho,hlook⟩:=H1.out.look
 obtain ⟨bb,HBB⟩:∃ bb,Hid (V.br (min f i) (max f i)=bb):=⟨_,rfl⟩
 have hlk:∀ w',w'.heap[X.mb]? = some o→(Instr.lookup 81 (.map (some X.mb)) (pairV (min f i) (max f i)) true).run Tryz.prog w'=.ok (.tuple #[.agg #[],.bool bb]) w':=fun w' hw'=>by rw [← HBB.out]; exact hlook w' hw' _ _ (by omega) (by omega)
 have HRR:=hid hr
 have hW:=HW.out
 have hxs:=row_ltJ H1.out.row
 clear h hf hi hlook hr
 go_enter Tryz.func62,Tryz.ntmps62
 go_wp2_with fail
 go_cut [5,6] from 7 (fun _ s6 wx=>s6=.bool bb∧Below w.heap.size w wx∧wx.heap[w.heap.size]? = some (.cells #[.int .i64 (f:Int),.int .i64 (i:Int),.int .i64 (d:Int),.int .i64 (k:Int),.int .i64 (a:Int),.bool y,.int .i64 (ph:Int),.int .i64 (pr:Int),.int .i64 (pa:Int)] 104 (0,0)))
 case first =>
  go_region_held3 (fun V=>V.cell? ⟨X.xb,2,none⟩=some (.map (some X.mb))∧V.cell? ⟨w.heap.size,0,none⟩=some (.int .i64 (f:Int))∧V.cell? ⟨w.heap.size,1,none⟩=some (.int .i64 (i:Int))∧V.heap[X.mb]? = some o) (first|exact ⟨c2,b0,b1,ho⟩|exact ⟨cell_alloc _ c2,cell_alloc _ b0,cell_alloc _ b1,(Below.heap_alloc _ _ _ (row_ltJ ho)).trans ho⟩|exact ⟨q1,q2,q3,q4⟩|exact ⟨cell_alloc _ q1,cell_alloc _ q2,cell_alloc _ q3,(Below.heap_alloc _ _ _ (row_ltJ q4)).trans q4⟩|go_keep) (first|(go_at_call 76; (with_reducible refine (between_p f i _).mono ?_); rintro e w3 ⟨rfl,hb3⟩; have q1:=cell_later hb3 c2; have q2:=cell_later hb3 b0; have q3:=cell_later hb3 b1; have q4:=((hb3.block _ (row_ltJ ho)).trans ho); have HB3:=hid (HB.out.drew.trans (hb3.mono HB.out.size)); have HR3:=hid ((hb3.block _ (row_ltJ HR.out)).trans HR.out); clear hb3)|(go_at_call 76; (with_reducible refine (between_p f i _).mono ?_); rintro e w3 ⟨rfl,hb3⟩; have q1:=cell_later hb3 (cell_alloc _ c2); have q2:=cell_later hb3 (cell_alloc _ b0); have q3:=cell_later hb3 (cell_alloc _ b1); have q4:=((hb3.block _ (Nat.lt_of_lt_of_le (row_ltJ ho) (kept_alloc (fun _=>False) _ _).size)).trans ((Below.heap_alloc _ _ _ (row_ltJ ho)).trans ho)); have HB3:=hid ((HB.out.drew.alloc HB.out.size _).trans (hb3.mono (Nat.le_trans HB.out.size (kept_alloc (fun _=>False) _ _).size))); have HR3:=hid ((hb3.block _ (Nat.lt_of_lt_of_le (row_ltJ HR.out) (kept_alloc (fun _=>False) _ _).size)).trans ((Below.heap_alloc _ _ _ (row_ltJ HR.out)).trans HR.out)); clear hb3))
  all_goals go_wp2_with fail
  all_goals go_meet
  all_goals first|exact ⟨rfl,HB3.out,HR3.out⟩|exact ⟨rfl,HB3.out.alloc HB3.out.size _,(Below.heap_alloc _ _ _ (row_ltJ HR3.out)).trans HR3.out⟩
 obtain ⟨rfl,hb3,hr3⟩:=hcut
 rename_i w3
 have HB3:=hid hb3
 have HR3:=hid hr3
 clear hb3 hr3 b0 b1 b2 b3 b4 b5 b6 b7 b8 c1 c2 ho hlk hxs hW
 have H3:=hid (H0.out.later HB3.out)
 obtain ⟨b0,b1,b2,b3,b4,b5,b6,b7,b8⟩:=nine HR3.out
 obtain ⟨-,c1,-,-,-⟩:=H3.out.cells
 have c2:=H3.out.ns i HI.out
 obtain ⟨d0,d1,d2⟩:=(H3.out.nds i HI.out).way
 obtain ⟨n,hn7⟩:∃ n,Hid (zs.length=n):=⟨_,rfl⟩
 have hin:=HI.out
 rw [hn7.out] at c1 hin n7
 obtain ⟨u,HU⟩:∃ u,Hid (((V.nd i).l != -2)=u):=⟨_,rfl⟩
 have HP:=hid (H3.out.nds i HI.out).sp.jp.pl
 have HRB:Hid (r=(u && (decide (f=i) || !bb))):=by
  rw [← HRR.out,← HU.out,← HBB.out]
  unfold reachB
  show (upN (V.nd i) && ((f:Int) == (i:Int) || !brX V f i))=_
  rw [show ((f:Int) == (i:Int))=decide (f=i) by rw [Bool.eq_iff_iff]; simp; omega]
  rfl
 cases u with
 | false =>
  obtain rfl:r=false:=HRB.out
  go_wp2_with fail
  go_quiet ((go_at_call 79; exact Calls.quiet_of_same (power_b (X.K i).p (X.K i).q (V.nd i).B (V.nd i).l false _ (by first|exact HP.out|exact HP.out.drew|exact HP.out.drewQ _|exact HP.out.drew.drewQ _|exact (HP.out.drewQ _).drew|exact (HP.out.drewQ _).drewQ _) HU.out)))
  go_wp2
  go_ret
  exact ⟨rfl,below_drewN HB3.out _⟩
 | true =>
  by_cases hfi:f=i
  ·have e1:((f:Int) == (i:Int))=true:=beq_iff_eq.2 (by omega)
   obtain rfl:r=true:=by rw [HRB.out,decide_eq_true hfi]; simp
   clear hfi
   go_wp2_with fail
   go_quiet ((go_at_call 79; exact Calls.quiet_of_same (power_b (X.K i).p (X.K i).q (V.nd i).B (V.nd i).l true _ (by first|exact HP.out|exact HP.out.drew|exact HP.out.drewQ _|exact HP.out.drew.drewQ _|exact (HP.out.drewQ _).drew|exact (HP.out.drewQ _).drewQ _) HU.out)))
   go_wp2
   go_ret
   exact ⟨rfl,below_drewN HB3.out _⟩
  ·have e1:((f:Int) == (i:Int))=false:=beq_eq_false_iff_ne.2 (by omega)
   obtain rfl:r=!bb:=by rw [HRB.out,decide_eq_false hfi]; simp
   cases bb with
   | false =>
    go_wp2_with fail
    go_quiet ((go_at_call 79; exact Calls.quiet_of_same (power_b (X.K i).p (X.K i).q (V.nd i).B (V.nd i).l true _ (by first|exact HP.out|exact HP.out.drew|exact HP.out.drewQ _|exact HP.out.drew.drewQ _|exact (HP.out.drewQ _).drew|exact (HP.out.drewQ _).drewQ _) HU.out)))
    go_wp2
    go_ret
    exact ⟨rfl,below_drewN HB3.out _⟩
   | true =>
    go_wp2_with fail
    go_quiet ((go_at_call 79; exact Calls.quiet_of_same (power_b (X.K i).p (X.K i).q (V.nd i).B (V.nd i).l true _ (by first|exact HP.out|exact HP.out.drew|exact HP.out.drewQ _|exact HP.out.drew.drewQ _|exact (HP.out.drewQ _).drew|exact (HP.out.drewQ _).drewQ _) HU.out)))
    go_wp2
    go_ret
    exact ⟨rfl,below_drewN HB3.out _⟩
end
theorem FI.nat {n:Nat} {F:F9} (h:FI n F):∃ f i d k a ph pr pa:Nat,F=frN f i d k a F.y ph pr pa∧f<n∧i<n∧d<6:=by
 obtain ⟨f0,f1,t0,t1,⟨-,-,o3,o4,o5,o6,o7,o8⟩⟩:=h
 obtain ⟨f,t,d,k,a,y,ph,pr,pa⟩:=F
 simp only at *
 obtain ⟨f,rfl⟩:=Int.eq_ofNat_of_zero_le f0
 obtain ⟨t,rfl⟩:=Int.eq_ofNat_of_zero_le t0
 obtain ⟨d,rfl⟩:=Int.eq_ofNat_of_zero_le o3.1
 obtain ⟨k,rfl⟩:=Int.eq_ofNat_of_zero_le (show 0≤k by omega)
 obtain ⟨a,rfl⟩:=Int.eq_ofNat_of_zero_le o5.1
 obtain ⟨ph,rfl⟩:=Int.eq_ofNat_of_zero_le o6.1
 obtain ⟨pr,rfl⟩:=Int.eq_ofNat_of_zero_le o7.1
 obtain ⟨pa,rfl⟩:=Int.eq_ofNat_of_zero_le o8.1
 exact ⟨f,t,d,k,a,ph,pr,pa,rfl,by omega,by omega,by omega⟩
section
variable {w0 w w':World} {C:Nat→Nat} {K:NB} {X:XB} {i m m':Nat} {zs:List Int} {N:PN} {V V':PX} {A:Nat→Addr}
theorem deliver_no (s:Int) (h:WD w0 w C X zs V m) (hE:Held9 w0 A) (hs:¬ (0≤s∧s<V.fly.length)) :
  Calls Tryz.prog 20 #[.pointer (some ⟨X.xb,0,none⟩),.int .i64 s] w fun e w'=>e=.returned (ev A 4)∧w'=w:=by
 have H:=hid h
 have HB:=hid (decide_eq_false hs)
 have g3':w.cell? ⟨1,0,none⟩=some (.iface 276 (.pointer (some (A 3)))):=(h.held hE).var 3 (by decide)
 clear h hE hs
 go_enter Tryz.func20,Tryz.ntmps20
 go_wp2_with fail
 refine (flies_is s false H.out HB.out).mono ?_
 rintro e w1 ⟨rfl,hx⟩
 subst w1
 go_wp2_with fail
 go_ret
 exact ⟨rfl,rfl⟩
theorem deliver_ok (j:Nat) (F:F9) (h:WD w0 w C X zs V m) (hE:Held9 w0 A) (hj:j<V.fly.length) (hF:V.fly[j]'hj=F) (hm:m<1000000) :
  Calls Tryz.prog 20 #[.pointer (some ⟨X.xb,0,none⟩),.int .i64 (j:Int)] w fun e w'=>e=.returned .nilIface∧WOut w0 w w' C X zs (deliverX zs V j F) (m+3):=by
 have HFI:=hid (h.inv.fr F (by rw [← hF]; exact List.getElem_mem _))
 obtain ⟨f,i,d,k,a,ph,pr,pa,e0,hf,hi,hd⟩:=HFI.out.nat
 obtain ⟨y,hy⟩:∃ y,F.y=y:=⟨_,rfl⟩
 rw [hy] at e0
 have HF0:=hid e0
 have H:=hid h
 have HE:=hid hE
 have HB:Hid (decide (0≤(j:Int)∧(j:Int)<V.fly.length)=true):=decide_eq_true (by omega)
 have HT:=hid (take_ok j F h hj hF (by omega))
 rw [e0] at HT
 simp only [frN] at HT
 have HFF:=hid hf
 have HII:=hid hi
 clear h hE e0 hF hj
 go_enter Tryz.func20,Tryz.ntmps20
 go_wp2_with fail
 refine (flies_is (j:Int) true H.out HB.out).mono ?_
 rintro e w1 ⟨rfl,hx⟩
 subst w1
 go_wp2_with fail
 refine HT.out.mono ?_
 rintro e w1 ⟨rfl,C1,X1,g1,g2,g3,g4⟩
 obtain ⟨W3,HW3⟩:∃ W3,Hid (w1.alloc (.cells #[.int .i64 (f:Int),.int .i64 (i:Int),.int .i64 (d:Int),.int .i64 (k:Int),.int .i64 (a:Int),.bool y,.int .i64 (ph:Int),.int .i64 (pr:Int),.int .i64 (pa:Int)] 104)=W3):=⟨_,rfl⟩
 have HBW:Hid (Below w1.heap.size w1 W3):=by rw [← HW3.out]; exact (Below.refl _ _).alloc (Nat.le_refl _) _
 have HR3:Hid (W3.heap[w1.heap.size]? = some (.cells #[.int .i64 (f:Int),.int .i64 (i:Int),.int .i64 (d:Int),.int .i64 (k:Int),.int .i64 (a:Int),.bool y,.int .i64 (ph:Int),.int .i64 (pr:Int),.int .i64 (pa:Int)] 104 (0,0))):=by rw [← HW3.out]; exact heap_alloc_new w1 _
 have hW3:=HW3.out
 have HNW3:Hid (2000≤C1 w1.heap.size):=by
  rcases Nat.lt_or_ge (C1 w1.heap.size) 2000 with q|q
  ·have:=g1.lt _ q; omega
  ·exact q
 have HG:=hid (And.intro (g1.later HBW.out) g2)
 have HK3:Hid (Kept (OwnX C) w W3):=g3.trans (Kept.of_below HBW.out)
 have HC3:Hid (∀ x,x<w.heap.size→C1 x=C x):=g4
 clear g1 g2 g3 g4
 obtain ⟨b0,b1,b2,b3,b4,b5,b6,b7,b8⟩:=nine HR3.out
 obtain ⟨r,HRr⟩:∃ r,Hid (reachB (takeX V j) (frN f i d k a y ph pr pa)=r):=⟨_,rfl⟩
 have HDX:Hid (deliverX zs V j F=if r=true then sendX (arriveX zs (takeX V j) F) (arriveO zs (takeX V j) F) else takeX V j):=by
  unfold deliverX
  rw [← HRr.out,← HF0.out]
  exact rfl
 have HRe:=hid (reaches_is f d k a ph pr pa y r HG.out.1 HFF.out HII.out HRr.out)
 rw [key_xb HG.out.2] at HRe
 go_wp2_with fail
 refine HRe.out.mono ?_
 rintro e w4 ⟨rfl,hb4⟩
 have HB4:=hid hb4
 have HR4:=hid ((hb4.block _ (row_ltJ HR3.out)).trans HR3.out)
 have H4:=hid (HG.out.1.later hb4)
 clear hb4 b0 b1 b2 b3 b4 b5 b6 b7 b8
 obtain ⟨b0,b1,b2,b3,b4,b5,b6,b7,b8⟩:=nine HR4.out
 cases r with
 | false =>
  go_wp2_with fail
  go_ret
  refine ⟨rfl,?_⟩
  rw [HDX.out,if_neg (by decide)]
  exact ⟨C1,X1,H4.out.mono (by omega),HG.out.2,HK3.out.trans (Kept.of_below HB4.out),HC3.out⟩
 | true =>
  have hup:(V.nd i).l≠-2:=by
   have:=HRr.out
   unfold reachB at this
   have h5:upN ((takeX V j).nd i)=true:=by
    rw [Bool.and_eq_true] at this
    exact this.1
   have h6:((V.nd i).l != -2)=true:=h5
   simpa using h6
  have HUp:=hid hup
  have HAr:=hid (arrive_any f d k a ph pr pa y F HF0.out H4.out HE.out HII.out (show ((takeX V j).nd i).l≠-2 from hup) HFI.out hm)
  rw [key_xb HG.out.2] at HAr
  have HAO:=hid (arriveO_fi (F:=F) H4.out.inv (by rw [HF0.out]; exact hup) HFI.out hm)
  clear hup
  go_wp2_with fail
  refine HAr.out.mono ?_
  rintro e w5 ⟨v,rfl,C5,X5,g1,g2,g3,g4,g5⟩
  have HSe:=hid (send_any v _ g1 g5.fr HAO.out.1 (Nat.le_trans HAO.out.2 (by decide)) (by omega))
  rw [key_xb g2,key_xb HG.out.2] at HSe
  have HG5:=hid (And.intro g2 (And.intro g3 g4))
  clear g1 g2 g3 g4 g5
  go_wp2_with fail
  refine HSe.out.mono ?_
  rintro e w6 ⟨rfl,C6,v6,y1,y2,y3⟩
  have HY:=hid (And.intro y1 (And.intro y2 y3))
  clear y1 y2 y3
  go_wp2_with fail
  go_ret
  refine ⟨rfl,?_⟩
  rw [HDX.out,if_pos (by trivial)]
  refine WOut.step (X:=X) HG.out.2 (HK3.out.trans (Kept.of_below HB4.out)) HC3.out ?_
  refine WOut.step (X:=X1) (C:=C1) HG5.out.1 HG5.out.2.1 HG5.out.2.2 ?_
  exact ⟨C6,_,HY.out.1,(by unfold key; exact Prod.ext (key_xb (HG5.out.1.trans HG.out.2)).symm rfl),HY.out.2.1,HY.out.2.2⟩
end
section
variable {w0 w w':World} {C C':Nat→Nat} {K:NB} {X:XB} {i m m':Nat} {zs:List Int} {N:PN} {V V':PX} {A:Nat→Addr}
def putLd (K:NB) (d lb b cap:Nat):NB:={ K with lb:=fun e=>if e=d then lb else K.lb e,b:=fun e=>if e=d then b else K.b e,cap:=fun e=>if e=d then cap else K.cap e }
theorem ldV_put {d e lb b cap:Nat} {y:Int×PL}:ldV (putLd K d lb b cap) (setLd N d y) e=if e=d then .pointer (some ⟨lb,0,none⟩) else ldV K N e:=by
 unfold ldV setLd putLd
 by_cases g:e=d
 ·subst g; simp
 ·simp [g]
theorem ndC_put {d lb b cap:Nat} {y:Int×PL} (hd:d<6):(ndC K N).set (1+d) (.pointer (some ⟨lb,0,none⟩))=ndC (putLd K d lb b cap) (setLd N d y):=by
 unfold ndC
 simp only [ldV_put]
 rcases six hd with rfl|rfl|rfl|rfl|rfl|rfl <;> rfl
theorem ND.putLead {d lb b cap:Nat} {a:Int} {P:PL} (h:ND w0 w C K i zs N m) (hd:d<6) (hL:LD w lb b cap i d a zs P) (c1:C lb=100 * i+10+d) (c2:C b=100 * i+20+d) (h0:w0.heap.size≤K.nd) :
  ND w0 (w.setCell ⟨K.nd,1+d,none⟩ (.pointer (some ⟨lb,0,none⟩))) C (putLd K d lb b cap) i zs (setLd N d (a,P)) m:=by
 have e1:=h.cs; have e2:=h.cj; have e3:=h.cm; have e4:=h.cp; have e5:=h.cq; have e6:=h.cn
 have hk:Kept (In1 K.nd) w (w.setCell ⟨K.nd,1+d,none⟩ (.pointer (some ⟨lb,0,none⟩))):=(Kept.refl _ w).set1 _ _
 have nS:∀ x,C x≠100 * i+1→¬ In1 K.nd x:=fun x g hx=>by rw [show x=K.nd from hx] at g; exact g e6
 have hlo:∀ x,In1 K.nd x→w0.heap.size≤x:=fun x hx=>by rw [show x=K.nd from hx]; exact h0
 refine ⟨?_,h.sp.far hk hlo (fun x hx=>nS x (by rcases hx with rfl|rfl|rfl <;> omega)) (nS _ (by omega)) (nS _ (by omega)),fun e he y hy=>?_,h.cn,h.cs,h.cj,h.cm,h.cp,h.cq,fun e he y hy=>?_,h.n0⟩
 ·show (w.setCell ⟨K.nd,1+d,none⟩ (.pointer (some ⟨lb,0,none⟩))).heap[K.nd]? = _
  rw [heap_setCell_same w K.nd (1+d) _ _ _ h.row,List.setIfInBounds_toArray,ndC_put hd]
 ·by_cases g:e=d
  ·subst g
   have hy':(a,P)=y:=by simpa [setLd] using hy
   subst hy'
   have:=hL.kept hk (nS _ (by omega)) (nS _ (by omega))
   simpa [putLd] using this
  ·have hy':N.ld e=some y:=by simpa [setLd,g] using hy
   have g1:=h.cl e he y hy'
   have:=(h.lds e he y hy').kept hk (nS _ (by omega)) (nS _ (by omega))
   simpa [putLd,g] using this
 ·by_cases g:e=d
  ·subst g; simpa [putLd] using And.intro c1 c2
  ·have:=h.cl e he y (by simpa [setLd,g] using hy)
   simpa [putLd,g] using this
theorem NI.putLead {n d:Nat} {a:Int} {P:PL} (h:NI n N m) (hu:N.l≠-2) (ha:0≤a∧a≤1048576) (h1:P.stt<4) (h2:0≤P.seen∧P.seen≤1048576) (h3:PW n P):NI n (setLd N d (a,P)) m:=by
 refine ⟨h.gd,h.nm,h.sz,h.up,h.l0,h.l1,fun e y hy=>?_⟩
 by_cases g:e=d
 ·subst g
  have hy':(a,P)=y:=by simpa [setLd] using hy
  subst hy'
  exact ⟨hu,ha,h1,h2,h3⟩
 ·exact h.ld e y (by simpa [setLd,g] using hy)
theorem WD.putLead {w1:World} {d lb b cap:Nat} {a:Int} {P:PL} (h:WD w0 w C X zs V m) (hb:Below w.heap.size w w1) (hi:i<zs.length) (hd:d<6) (hu:(V.nd i).l≠-2) (hL:LD w1 lb b cap i d a zs P) (hlb:w.heap.size≤b) (ha:0≤a∧a≤1048576) (h1:P.stt<4) (h2:0≤P.seen∧P.seen≤1048576) :
  ∃ C',WD w0 (w1.setCell ⟨(X.K i).nd,1+d,none⟩ (.pointer (some ⟨lb,0,none⟩))) C' { X with K:=fun e=>if e=i then putLd (X.K i) d lb b cap else X.K e } zs (setNd V i (setLd (V.nd i) d (a,P))) m∧Kept (OwnX C) w (w1.setCell ⟨(X.K i).nd,1+d,none⟩ (.pointer (some ⟨lb,0,none⟩)))∧(∀ x,x<w.heap.size→C' x=C x)∧C' lb=100 * i+10+d∧C' b=100 * i+20+d∧(∀ x,w.heap.size≤x→x≠lb→x≠b→2000≤C' x):=by
 have n7:=h.n7.2
 have hbl:=hL.bl
 have hlt:=row_ltJ hL.row
 obtain ⟨C1,hC1⟩:∃ C1,C1=paint (paint C lb (100 * i+10+d)) b (100 * i+20+d):=⟨_,rfl⟩
 have hC:∀ x,x<w.heap.size→C1 x=C x:=fun x hx=>by rw [hC1,paint_ne (by omega),paint_ne (by omega)]
 have e1:C1 lb=100 * i+10+d:=by rw [hC1,paint_ne (by omega),paint_at]
 have e2:C1 b=100 * i+20+d:=by rw [hC1,paint_at]
 have hbig:∀ x,w.heap.size≤x→x≠lb→x≠b→2000≤C1 x:=fun x hx n1 n2=>by
  rw [hC1,paint_ne n2,paint_ne n1]
  rcases Nat.lt_or_ge (C x) 2000 with q|q
  ·have:=h.lt x q; omega
  ·exact q
 have hg:=h.grow (C':=C1) hb hC (fun x hx hc=>by
  by_cases n1:x=lb
  ·rw [n1]; exact hlt
  ·by_cases n2:x=b
   ·rw [n2]; omega
   ·have:=hbig x hx n1 n2; omega)
 have hcn:=(h.nds i hi).cn
 have hcn1:=(hg.nds i hi).cn
 have hnd:=row_ltJ (h.nds i hi).row
 have hni:=(h.inv.nd i hi).putLead (d:=d) hu ha h1 h2 hL.pw
 refine ⟨C1,?_,?_,hC,e1,e2,hbig⟩
 ·exact hg.node (S:=In1 (X.K i).nd) ((Kept.refl _ w1).set1 _ _) hi (fun x hx=>by rw [show x=_ from hx]; omega) (fun _ _=>rfl) (fun x hx hc=>by have:=hg.lt x hc; omega) ((hg.nds i hi).putLead hd hL e1 e2 (h.nds i hi).n0) rfl (Nat.le_refl _) (h.inv.node hni (Nat.le_refl _))
 ·exact (Kept.of_below hb).setCell (show C (X.K i).nd<2000 by omega) _
def cBeg (n:Nat) (V:PX) (s d:Int):Nat:=if (0≤s∧s<n)∧0≤d∧d<6 then (if upN (V.nd s.toNat)=true then (if heldX n V d.toNat=true then 8 else 0) else 6) else 2
theorem WD.sl (h:WD w0 w C X zs V m):IsSl w (.slice (some ⟨X.wb,0,none⟩) zs.length X.wc) zs:=by
 have:=h.n7.2
 exact ⟨_,X.wc,rfl,by unfold maxLen; omega,(fun x=>by cases x),fun _=>⟨X.wb,0,rfl,h.ws⟩⟩
theorem heldX_ld {n d:Nat} (h:heldX n V d=false) (hi:i<n):(V.nd i).ld d=none:=by
 unfold heldX at h
 rw [List.any_eq_false] at h
 have:=h i (List.mem_range.2 hi)
 cases hl:(V.nd i).ld d with
 | none=>rfl
 | some x=>rw [hl] at this; simp at this
theorem toL_start {n:Nat} {s d:Nat} (hs:s<n) (hn:n≤7) (hd:d<6):(∀ f,f∈toL s d 1 0 0 n→FI n f)∧(toL s d 1 0 0 n).length≤1000 :=
 ⟨toL_fi hs hn hd (by decide) (by decide) (by decide) n (Nat.le_refl _),by rw [toL_length]; omega⟩
theorem begin_any (s d:Int) (c:Nat) (h:WD w0 w C X zs V m) (hE:Held9 w0 A) (hm:m<1000000) (hc:cBeg zs.length V s d=c) :
  Calls Tryz.prog 18 #[.pointer (some ⟨X.xb,0,none⟩),.int .i64 s,.int .i64 d] w fun e w'=>e=.returned (ev A c)∧WOut w0 w w' C X zs (if c=0 then beginX zs V s.toNat d.toNat else V) (m+1):=by
 have H:=hid h
 have HE:=hid hE
 have HE1:=hid (h.held hE)
 have n7:=h.n7
 clear h hE
 subst hc
 by_cases hs:(0≤s∧s<zs.length)∧0≤d∧d<6
 ·obtain ⟨k,rfl⟩:=Int.eq_ofNat_of_zero_le hs.1.1
  obtain ⟨dn,rfl⟩:=Int.eq_ofNat_of_zero_le hs.2.1
  have hk:k<zs.length:=by omega
  have hd:dn<6:=by omega
  have HK:=hid hk
  obtain ⟨b,HB⟩:∃ b,Hid (((V.nd k).l != -2)=b):=⟨_,rfl⟩
  have HU:Hid (upN (V.nd k)=b):=HB.out
  cases b with
  | true =>
   obtain ⟨hb,HH⟩:∃ hb,Hid (heldX zs.length V dn=hb):=⟨_,rfl⟩
   cases hb with
   | true =>
    have e:cBeg zs.length V k dn=8:=by unfold cBeg; rw [if_pos hs,Int.toNat_natCast,Int.toNat_natCast,HU.out,if_pos rfl,HH.out,if_pos rfl]
    rw [e]
    clear e hs hk
    have g7:w.cell? ⟨0,0,none⟩=some (.iface 276 (.pointer (some (A 7)))):=HE1.out.var 7 (by decide)
    go_enter Tryz.func18,Tryz.ntmps18
    go_wp2_with fail
    refine (findDeal_ok k dn H.out HK.out hd).mono ?_
    rintro e w1 ⟨rfl,hx⟩
    subst w1
    go_wp2_with fail
    refine (powered_is true (H.out.nds k HK.out) HE1.out HB.out).mono ?_
    rintro e w1 ⟨rfl,hb⟩
    simp only [if_true]
    have H1:=hid (H.out.later hb)
    have HB1:=hid hb
    have g7':=cell_later hb g7
    clear hb g7
    go_wp2_with fail
    have HI:=hid (isHeld_is dn H1.out HE.out hd)
    rw [HH.out] at HI
    refine HI.out.mono ?_
    rintro e w2 ⟨rfl,hb2⟩
    have HB2:=hid (HB1.out.trans (hb2.mono HB1.out.size))
    have g7:=cell_later hb2 g7'
    clear hb2 g7'
    go_wp2_with fail
    go_ret
    exact ⟨rfl,H.out.out HB2.out (Nat.le_succ _)⟩
   | false =>
    have e:cBeg zs.length V k dn=0:=by unfold cBeg; rw [if_pos hs,Int.toNat_natCast,Int.toNat_natCast,HU.out,if_pos rfl,HH.out,if_neg (by decide)]
    rw [e]
    clear e hs hk
    have HUp:Hid ((V.nd k).l≠-2):=by have:=HB.out; show (V.nd k).l≠-2; simpa using this
    have HLn:=hid (heldX_ld HH.out HK.out)
    go_enter Tryz.func18,Tryz.ntmps18
    go_wp2_with fail
    refine (findDeal_ok k dn H.out HK.out hd).mono ?_
    rintro e w1 ⟨rfl,hx⟩
    subst w1
    go_wp2_with fail
    refine (powered_is true (H.out.nds k HK.out) HE1.out HB.out).mono ?_
    rintro e w1 ⟨rfl,hb⟩
    simp only [if_true]
    have H1:=hid (H.out.later hb)
    have HB1:=hid hb
    clear hb
    go_wp2_with fail
    have HI:=hid (isHeld_is dn H1.out HE.out hd)
    rw [HH.out] at HI
    refine HI.out.mono ?_
    rintro e w2 ⟨rfl,hb2⟩
    have HB2:=hid (HB1.out.trans (hb2.mono HB1.out.size))
    have H2:=hid (H1.out.later hb2)
    have c0:=H2.out.cells.1
    clear hb2 HI H1
    go_wp2_with fail
    refine (ldBegin_ok A _ zs k (dn:Int) w2 H2.out.sl (H2.out.held HE.out).to3 H2.out.inv.he HK.out (by omega) (by omega)).mono ?_
    rintro e w3 ⟨lb,b,cap,rfl,hl,hb3,hlb⟩
    have HL3:=hid hl
    have c1:=((H2.out.later hb3).nds k HK.out).lead hd
    rw [ldV_none HLn.out] at c1
    have z1:=((H2.out.later hb3).nds k HK.out).fz (1+dn)
    obtain ⟨C4,q1,q2,q3,-,-,-⟩:=H2.out.putLead hb3 HK.out hd HUp.out hl hlb (by decide) (by decide) (by decide)
    obtain ⟨W4,HW4⟩:∃ W4,Hid (w3.setCell ⟨(X.K k).nd,1+dn,none⟩ (.pointer (some ⟨lb,0,none⟩))=W4):=⟨_,rfl⟩
    have hW4:=HW4.out
    rw [hW4] at q1 q2
    have HQ:=hid (And.intro q1 (And.intro q2 q3))
    clear q1 q2 q3 hl hb3 hlb
    have HLD:=hid ((HQ.out.1.nds k HK.out).lds dn hd (0,P0) (by simp [setNd,setLd]))
    simp only [putLd,if_true] at HLD
    go_wp2_with fail
    refine (ldStart0_any n7.2 HLD.out).mono ?_
    rintro e w5 ⟨v,rfl,hf5,hb5⟩
    have H5:=hid (HQ.out.1.later hb5)
    have HSe:=hid (send_any v _ H5.out hf5.fr (toL_start HK.out n7.2 hd).1 (toL_start HK.out n7.2 hd).2 (by omega))
    have HB5:=hid hb5
    clear hf5 hb5
    go_wp2_with fail
    refine HSe.out.mono ?_
    rintro e w6 ⟨rfl,C6,v6,y1,y2,y3⟩
    have HY:=hid (And.intro y1 (And.intro y2 y3))
    clear y1 y2 y3
    go_wp2_with fail
    go_ret
    refine ⟨rfl,?_⟩
    refine WOut.step (X:=X) (C1:=C) (X1:=X) rfl (Kept.of_below HB2.out) (fun _ _=>rfl) ?_
    refine WOut.step (X1:={ X with K:=fun e=>if e=k then putLd (X.K k) dn lb b cap else X.K e }) (key_K rfl) HQ.out.2.1 HQ.out.2.2 ?_
    refine WOut.step (C1:=C4) (X1:={ X with K:=fun e=>if e=k then putLd (X.K k) dn lb b cap else X.K e }) rfl (Kept.of_below HB5.out) (fun _ _=>rfl) ?_
    exact ⟨C6,_,HY.out.1,rfl,HY.out.2.1,HY.out.2.2⟩
  | false =>
   have e:cBeg zs.length V k dn=6:=by unfold cBeg; rw [if_pos hs,Int.toNat_natCast,HU.out,if_neg (by decide)]
   rw [e]
   clear e hs hk
   go_enter Tryz.func18,Tryz.ntmps18
   go_wp2_with fail
   refine (findDeal_ok k dn H.out HK.out hd).mono ?_
   rintro e w1 ⟨rfl,hx⟩
   subst w1
   go_wp2_with fail
   refine (powered_is false (H.out.nds k HK.out) HE1.out HB.out).mono ?_
   rintro e w1 ⟨rfl,hb⟩
   rw [if_neg (by decide),if_neg (by decide)]
   have HB1:=hid hb
   clear hb
   go_wp2_with fail
   go_ret
   exact ⟨rfl,H.out.out HB1.out (Nat.le_succ _)⟩
 ·have e:cBeg zs.length V s d=2:=by unfold cBeg; rw [if_neg hs]
  rw [e]
  have HS:=hid hs
  clear e hs
  go_enter Tryz.func18,Tryz.ntmps18
  go_wp2_with fail
  refine (findDeal_no s d H.out HE.out HS.out).mono ?_
  rintro e w1 ⟨rfl,hb⟩
  have HB1:=hid hb
  clear hb
  go_wp2_with fail
  refine (powered_err _ _).mono ?_
  rintro e w2 ⟨rfl,hx⟩
  subst w2
  go_wp2_with fail
  go_ret
  exact ⟨rfl,H.out.out HB1.out (Nat.le_succ _)⟩
end
section
variable {w0 w w':World} {C C':Nat→Nat} {K:NB} {X:XB} {i m m':Nat} {zs:List Int} {N:PN} {V V':PX} {A:Nat→Addr}
def wakeN (N:PN):PN:={ N with l:=-1,over:=false,R:=fun _=>false }
theorem NI.wake {n:Nat} (h:NI n N m) (hl:N.l=-2):NI n (wakeN N) m :=
 ⟨h.gd,h.nm,h.sz,fun _=>rfl,by show (-2:Int)≤-1; omega,by show (-1:Int)≤_; omega,fun d x hx=>by have:=(h.ld d x hx).1; exact (this hl).elim⟩
theorem WD.wake {w1 w2:World} {s' j' mb':Nat} (h:WD w0 w C X zs V m) (hi:i<zs.length) (hl:(V.nd i).l=-2) (hp:Pl w1 (X.K i).p (X.K i).q (V.nd i).B (-1)) (hk:Kept (In2 (X.K i).p (X.K i).q) w w1) (hj:JR w2 j' (X.K i).p (dealL (V.nd i).B.data.toList) false) (hs:SR w2 s' j' mb' i (fun _=>false) 0) (hb:Below w1.heap.size w1 w2) (hj0:w1.heap.size≤j') (hjm:j'<mb') (hms:mb'<s') :
  ∃ C' X',WD w0 (w2.setCell ⟨(X.K i).nd,0,none⟩ (.pointer (some ⟨s',0,none⟩))) C' X' zs (setNd V i (wakeN (V.nd i))) m∧key X'=key X∧Kept (OwnX C) w (w2.setCell ⟨(X.K i).nd,0,none⟩ (.pointer (some ⟨s',0,none⟩)))∧(∀ x,x<w.heap.size→C' x=C x)∧X'.K i={ X.K i with s:=s',j:=j',mb:=mb' }:=by
 have n7:=h.n7.2
 have hN:=h.nds i hi
 have e1:=hN.cs; have e2:=hN.cj; have e3:=hN.cm; have e4:=hN.cp; have e5:=hN.cq; have e6:=hN.cn
 have hsz:=hk.size
 have hslt:=hs.lts
 obtain ⟨l1,l2,l3,l4,l5⟩:=hN.sp.lts
 have lnd:=row_ltJ hN.row
 have hw0:=h.bel.size
 obtain ⟨C1,hC1⟩:∃ C1,C1=paint (paint (paint C s' (100 * i+2)) j' (100 * i+3)) mb' (100 * i+4):=⟨_,rfl⟩
 have hC:∀ x,x<w.heap.size→C1 x=C x:=fun x hx=>by rw [hC1,paint_ne (by omega),paint_ne (by omega),paint_ne (by omega)]
 have q1:C1 s'=100 * i+2:=by rw [hC1,paint_ne (by omega),paint_ne (by omega),paint_at]
 have q2:C1 j'=100 * i+3:=by rw [hC1,paint_ne (by omega),paint_at]
 have q3:C1 mb'=100 * i+4:=by rw [hC1,paint_at]
 have hbel1:Below w0.heap.size w0 w1:=hk.below hw0 (fun x hx=>by rcases hx with rfl|rfl; exact h.low _ (by omega); exact h.low _ (by omega)) h.bel
 have hsp:=sp_new (w0:=w0) hbel1 hp (h.low _ (by omega)) (h.low _ (by omega)) hj hs hb hj0 hjm hms (by decide) (by decide) hN.sp.jp.sz hN.sp.jp.s6
 have hkk:Kept (In2 (X.K i).p (X.K i).q) w w2:=hk.trans (Kept.of_below hb)
 have hset:Kept (In1 (X.K i).nd) w2 (w2.setCell ⟨(X.K i).nd,0,none⟩ (.pointer (some ⟨s',0,none⟩))):=(Kept.refl _ w2).set1 0 _
 have nnd:∀ x,C1 x≠100 * i+1→¬ In1 (X.K i).nd x:=fun x g hx=>by rw [show x=(X.K i).nd from hx,hC _ lnd] at g; exact g e6
 have hK3:Kept (fun x=>C x / 100=i) w (w2.setCell ⟨(X.K i).nd,0,none⟩ (.pointer (some ⟨s',0,none⟩))):=(hkk.mono hN.in2).setCell (show C (X.K i).nd / 100=i by omega) _
 have hrow:w2.heap[(X.K i).nd]? = some (.cells (ndC (X.K i) (V.nd i)).toArray 95 (0,0)):=hkk.row hN.row (fun e=>by rcases e with e|e; (rw [e] at e6; omega); (rw [e] at e6; omega))
 have hno:∀ d,(V.nd i).ld d=none:=fun d=>by
  cases hd:(V.nd i).ld d with
  | none=>rfl
  | some x=>exact (((h.inv.nd i hi).ld d x hd).1 hl).elim
 have hND:ND w0 (w2.setCell ⟨(X.K i).nd,0,none⟩ (.pointer (some ⟨s',0,none⟩))) C1 { X.K i with s:=s',j:=j',mb:=mb' } i zs (wakeN (V.nd i)) m:=by
  refine ⟨?_,?_,fun d hd x hx=>?_,(hC _ lnd).trans e6,q1,q2,q3,(hC _ l4).trans e4,(hC _ l5).trans e5,fun d hd x hx=>?_,hN.n0⟩
  ·show (w2.setCell ⟨(X.K i).nd,0,none⟩ (.pointer (some ⟨s',0,none⟩))).heap[(X.K i).nd]? = _
   rw [heap_setCell_same w2 (X.K i).nd 0 _ _ _ hrow]; rfl
  ·have:=(hsp.mono (Nat.zero_le m)).far hset (fun x hx=>by rw [show x=_ from hx]; exact hN.n0) (fun x hx=>nnd x (by rcases hx with rfl|rfl|rfl; omega; (rw [hC _ l4]; omega); (rw [hC _ l5]; omega))) (nnd _ (by omega)) (nnd _ (by omega))
   exact this
  ·have hx':(V.nd i).ld d=some x:=hx
   rw [hno d] at hx'; cases hx'
  ·have hx':(V.nd i).ld d=some x:=hx
   rw [hno d] at hx'; cases hx'
 refine ⟨C1,_,h.node hK3 hi (fun x hx=>hx) hC (fun x hx hc=>?_) hND rfl (Nat.le_refl _) (h.inv.node ((h.inv.nd i hi).wake hl) (Nat.le_refl _)),key_K rfl,hK3.mono (fun x hx=>by show C x<2000; omega),hC,?_⟩
 ·rw [show (w2.setCell ⟨(X.K i).nd,0,none⟩ (.pointer (some ⟨s',0,none⟩))).heap.size=w2.heap.size by simp]
  by_cases g1:x=s'
  ·rw [g1]; exact hslt.1
  ·by_cases g2:x=j'
   ·rw [g2]; omega
   ·by_cases g3:x=mb'
    ·rw [g3]; omega
    ·rw [hC1,paint_ne g3,paint_ne g2,paint_ne g1] at hc
     have:=h.lt x hc
     omega
 ·simp
def cWake (n:Nat) (V:PX) (s:Int):Nat:=if 0≤s∧s<n then (if upN (V.nd s.toNat)=true then 8 else 0) else 2
theorem setNd_st {d:Nat}:stN ((setNd V i (wakeN (V.nd i))).nd i) d=stN (V.nd i) d:=by
 unfold setNd
 simp only [if_true]
 rfl
theorem wake_any (s:Int) (c:Nat) (h:WD w0 w C X zs V m) (hE:Held9 w0 A) (hc:cWake zs.length V s=c) :
  Calls Tryz.prog 35 #[.pointer (some ⟨X.xb,0,none⟩),.int .i64 s] w fun e w'=>e=.returned (ev A c)∧WOut w0 w w' C X zs (if c=0 then upX V s.toNat else V) (m+1):=by
 have H:=hid h
 have HE:=hid hE
 have HE1:=hid (h.held hE)
 have n7:=h.n7
 clear h hE
 subst hc
 by_cases hs:0≤s∧s<zs.length
 ·obtain ⟨k,rfl⟩:=Int.eq_ofNat_of_zero_le hs.1
  have hk:k<zs.length:=by omega
  have HK:=hid hk
  obtain ⟨b,HB⟩:∃ b,Hid (((V.nd k).l != -2)=b):=⟨_,rfl⟩
  have HU:Hid (upN (V.nd k)=b):=HB.out
  obtain ⟨c0,c1,c2⟩:=(H.out.nds k hk).way
  cases b with
  | true =>
   have e:cWake zs.length V k=8:=by unfold cWake; rw [if_pos hs,Int.toNat_natCast,HU.out,if_pos rfl]
   rw [e]
   clear e hs hk
   have g7:w.cell? ⟨0,0,none⟩=some (.iface 276 (.pointer (some (A 7)))):=HE1.out.var 7 (by decide)
   go_enter Tryz.func35,Tryz.ntmps35
   go_wp2_with fail
   refine (find_ok k H.out HK.out).mono ?_
   rintro e w1 ⟨rfl,hx⟩
   subst w1
   go_wp2_with fail
   refine (power_b _ _ _ _ true w (H.out.nds k HK.out).sp.jp.pl HB.out).mono ?_
   rintro e w1 ⟨rfl,hx⟩
   subst w1
   go_wp2_with fail
   go_ret
   exact ⟨rfl,H.out.out (Below.refl _ _) (Nat.le_succ _)⟩
  | false =>
   have e:cWake zs.length V k=0:=by unfold cWake; rw [if_pos hs,Int.toNat_natCast,HU.out,if_neg (by decide)]
   rw [e]
   clear e hs hk
   have HL:Hid ((V.nd k).l=-2):=by have:=HB.out; show (V.nd k).l=-2; simpa using this
   have HNS:=hid (H.out.nds k HK.out)
   have HSZ:=hid (H.out.inv.nd k HK.out).sz
   go_enter Tryz.func35,Tryz.ntmps35
   go_wp2_with fail
   refine (find_ok k H.out HK.out).mono ?_
   rintro e w1 ⟨rfl,hx⟩
   subst w1
   go_wp2_with fail
   refine (power_b _ _ _ _ false w HNS.out.sp.jp.pl HB.out).mono ?_
   rintro e w1 ⟨rfl,hx⟩
   subst w1
   go_wp2_with fail
   refine (pon_any _ _ _ _ w HNS.out.sp.jp.pl).mono ?_
   rintro e w1 ⟨rfl,hp,hk1⟩
   have HP:=hid hp
   have HK1:=hid hk1
   obtain ⟨c0',c1',c2'⟩:=(HNS.out.power hk1 hp (by decide) (by decide)).way
   have HE2:=hid (HE.out.later (hk1.below H.out.bel.size (fun x hx=>H.out.low _ (by have:=HNS.out.in2 x hx; have:=HK.out; omega)) H.out.bel))
   clear hp hk1
   go_wp2_with fail
   refine (snew_ok A (k:Int) _ _ _ (-1) w1 HP.out HE2.out.toE (by rw [HSZ.out]; decide) (by rw [HSZ.out]; decide) (by decide) (by omega) (by have:=HK.out; omega)).mono ?_
   rintro e w2 ⟨s',j',mb',rfl,hj,hs2,hb2,hj0,hjm,hms⟩
   obtain ⟨C3,X3,q1,q2,q3,q4,q5⟩:=H.out.wake HK.out HL.out HP.out HK1.out hj hs2 hb2 hj0 hjm hms
   obtain ⟨W3,HW3⟩:∃ W3,Hid (w2.setCell ⟨(X.K k).nd,0,none⟩ (.pointer (some ⟨s',0,none⟩))=W3):=⟨_,rfl⟩
   have hW3:=HW3.out
   have HKW:Hid (Kept (In2 (X.K k).p (X.K k).q) w w2):=HK1.out.trans (Kept.of_below hb2)
   have hrow2:=HKW.out.row HNS.out.row (fun e=>by have e6:=HNS.out.cn; have e4:=HNS.out.cp; have e5:=HNS.out.cq; rcases e with e|e; (rw [e] at e6; omega); (rw [e] at e6; omega))
   have d0:w2.cell? ⟨(X.K k).nd,0,none⟩=some (.pointer (some ⟨(X.K k).s,0,none⟩)):=by rw [cell_of_row _ _ _ _ _ _ hrow2]; rfl
   have z0:=frozen_of_row w2 (X.K k).nd 0 _ _ hrow2
   rw [hW3] at q1 q3
   have HQ:=hid (And.intro q1 (And.intro q2 (And.intro q3 q4)))
   -- the site ahead,as it was
   have HJo:Hid (JR W3 (X.K k).j (X.K k).p (dlN (V.nd k)) (V.nd k).over):=by
    rw [← HW3.out]
    show (w2.setCell _ _).heap[(X.K k).j]? = _
    rw [heap_setCell_other _ _ _ _ (by show (X.K k).j≠(X.K k).nd; intro e; have e6:=HNS.out.cn; have e2:=HNS.out.cj; rw [e] at e2; omega)]
    exact HKW.out.row HNS.out.sp.jp.jr (fun e=>by have e2:=HNS.out.cj; have e4:=HNS.out.cp; have e5:=HNS.out.cq; rcases e with e|e; (rw [e] at e2; omega); (rw [e] at e2; omega))
   have HSo:Hid (SR W3 (X.K k).s (X.K k).j (X.K k).mb k (V.nd k).R m):=by
    have e1:=HNS.out.cs; have e3:=HNS.out.cm; have e4:=HNS.out.cp; have e5:=HNS.out.cq; have e6:=HNS.out.cn
    have hk3:Kept (fun x=>x=(X.K k).nd ∨ In2 (X.K k).p (X.K k).q x) w W3:=by rw [← HW3.out]; exact (HKW.out.mono (fun x hx=>.inr hx)).setCell (.inl rfl) _
    refine HNS.out.sp.sr.kept hk3 (fun e=>?_) (fun e=>?_)
    ·rcases e with e|e|e
     ·rw [e] at e1; omega
     ·rw [e] at e1; omega
     ·rw [e] at e1; omega
    ·rcases e with e|e|e
     ·rw [e] at e3; omega
     ·rw [e] at e3; omega
     ·rw [e] at e3; omega
   clear q1 q2 q3 q4 q5 hj hs2 hb2 hj0 hjm hms hrow2
   go_wp2_with fail
   go_loopw [79] (fun v wr=>∃ q:Nat,q≤6∧v=.int .i64 (q:Int)∧Below W3.heap.size W3 wr) (fun v _=>6 - (intOf v).toNat)
   case atStart=>exact ⟨0,Nat.zero_le _,rfl,Below.refl _ _⟩
   case round =>
    obtain ⟨q,hq,rfl,hb⟩:=hrel
    have HBr:=hid hb
    have Hr:=hid (HQ.out.1.later hb)
    have HJr:=hid (HJo.out.later hb HJo.out.lt)
    have HSr:=hid (HSo.out.later hb)
    clear hb
    by_cases hlt:q<6
    ·obtain ⟨⟨was,t2,t3⟩,HST⟩:∃ x,Hid ((dlN (V.nd k) q).2=x):=⟨_,rfl⟩
     have HS5:Hid (stN ((setNd V k (wakeN (V.nd k))).nd k) q=⟨was,t2,t3⟩):=setNd_st.trans HST.out
     have hph:∀ w,(Instr.field 43 (.agg #[.int .i64 (was:Int),.int .i64 (t2:Int),.int .i64 (t3:Int)]) 0).run Tryz.prog w=.ok (.int .i64 (was:Int)) w:=fun w=>phase_of _ _ _ w
     go_wp2_with fail
     refine (known_ag q was t2 t3 HJr.out HSr.out hlt HST.out).mono ?_
     rintro e w5 ⟨rfl,hb5⟩
     have HB5:=hid (HBr.out.trans (hb5.mono HBr.out.size))
     have HNo:=hid (note_not k q was was t2 t3 (Hr.out.later hb5) HK.out hlt HS5.out (fun h=>h.1 rfl))
     rw [key_xb HQ.out.2.1] at HNo
     clear hb5
     go_wp2_with fail
     refine HNo.out.mono ?_
     rintro e w6 ⟨rfl,hb6⟩
     have HB6:=hid (HB5.out.trans (hb6.mono HB5.out.size))
     clear hb6
     go_wp2_with fail
     go_roundw
     case rel=>exact ⟨q+1,by omega,by go_num,HB6.out⟩
     case measure=>simp [intOf]; omega
    ·obtain rfl:q=6:=by omega
     go_wp2_with fail
     go_ret
     refine ⟨rfl,?_⟩
     exact ⟨_,_,Hr.out.mono (Nat.le_succ _),HQ.out.2.1,HQ.out.2.2.1.trans (Kept.of_below HBr.out),HQ.out.2.2.2⟩
 ·have e:cWake zs.length V s=2:=by unfold cWake; rw [if_neg hs]
  rw [e]
  have HS:=hid hs
  clear e hs
  go_enter Tryz.func35,Tryz.ntmps35
  go_wp2_with fail
  refine (find_no s H.out HE.out HS.out).mono ?_
  rintro e w1 ⟨rfl,hb⟩
  have HB1:=hid hb
  clear hb
  go_wp2_with fail
  go_ret
  exact ⟨rfl,H.out.out HB1.out (Nat.le_succ _)⟩
end
end Go.Proofs.YtadhpkopkkjmfaaGreatDoor
