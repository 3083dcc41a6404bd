/-
  On the way to WStepsProof: XF XG XH.
-/
import Derived.Test.YtadhpkopkkjmfaaGreatDoorBz46
import Derived.Test.YtadhpkopkkjmfaaGreatDoorBz45
set_option maxHeartbeats 8000000
set_option maxRecDepth 100000
namespace Go.Proofs.YtadhpkopkkjmfaaGreatDoor
open Go.RowKit
theorem own_lower {w:World} {b b':Nat} {e:TypeId} {size n:Nat} {v:Value} {xs:List Value} (h:w.ownsRow b e size v n xs) (hb:b'≤b):w.ownsRow b' e size v n xs:=by
 refine ⟨h.1,?_⟩
 rcases h.2 with hn|⟨g,cap,cur,rfl,hb',rest⟩
 ·exact .inl hn
 ·exact .inr ⟨g,cap,cur,rfl,Nat.le_trans hb hb',rest⟩
theorem fr_take {w:World} {g o cap c k:Nat} {L:List F9} (h:IsFr w (.slice (some ⟨g,o,none⟩) L.length cap) L) (hk:k≤L.length):IsFr w (.slice (some ⟨g,o,none⟩) k c) (L.take k):=by
 have hl:(L.take k).length=k:=by rw [List.length_take]; omega
 obtain ⟨ad,cp,e,hf⟩:=h
 injection e with e1 e2 e3
 subst e1
 refine ⟨_,c,by rw [hl],fun i hi=>?_⟩
 rw [hl] at hi
 obtain ⟨b,off,e4,hc⟩:=hf i (by omega)
 refine ⟨b,off,e4,fun j hj=>?_⟩
 rw [hc j hj,List.getElem_take]
theorem fr_drop {w:World} {g o o2 cap c k:Nat} {L:List F9} (h:IsFr w (.slice (some ⟨g,o,none⟩) L.length cap) L) (hk:k≤L.length) (ho:k<L.length→o2=o+k * 9):IsFr w (.slice (some ⟨g,o2,none⟩) (L.length - k) c) (L.drop k):=by
 have hl:(L.drop k).length=L.length - k:=by rw [List.length_drop]
 obtain ⟨ad,cp,e,hf⟩:=h
 injection e with e1 e2 e3
 subst e1
 refine ⟨_,c,by rw [hl],fun i hi=>?_⟩
 rw [hl] at hi
 obtain ⟨b,off,e4,hc⟩:=hf (k+i) (by omega)
 have e5:=Option.some.inj e4
 injection e5 with e6 e7
 subst e6 e7
 refine ⟨g,o2,rfl,fun j hj=>?_⟩
 have:=hc j hj
 rw [ho (by omega),List.getElem_drop,← this]
 congr 2
 omega
section
variable {w0 w w':World} {C C':Nat→Nat} {Y:YB} {aw:Option Addr} {cap m m':Nat} {zs:List Int} {V V':PX}
theorem rtake_ok (k:Nat) (F:F9) (h:RW w0 w C Y aw cap zs V m) (hk:k<V.fly.length) (hF:V.fly[k]'hk=F) (hm:m≤100000000) :
  Calls Tryz.prog 130 #[.pointer (some ⟨Y.xb,0,none⟩),.int .i64 (k:Int)] w fun e w'=>e=.returned (.tuple #[frV F.f F.t F.d F.k F.a F.y F.ph F.pr F.pa,.bool true])∧ROut w0 w w' C Y aw cap zs (takeX V k) m:=by
 obtain ⟨g,cp,cur,hv,hbg,hrow,hnc,hcm,hcs,htk⟩:∃ g cp,∃ cur:Array Value,Y.fv=.slice (some ⟨g,0,none⟩) V.fly.length cp∧w0.heap.size≤g∧w.heap[g]? = some (.cells cur 104 (0,0))∧V.fly.length≤cp∧cp≤maxLen∧cur.size=cp * 9∧cur.toList.take (V.fly.length * 9)=frCells V.fly:=by
  rcases h.fly.2 with ⟨-,h0⟩|h1
  ·omega
  ·exact h1
 have HFr:=hid (IsFr.owned h.fly)
 rw [hv] at HFr
 have hcl:∀ j,j<9→w.cell? ⟨g,k * 9+j,none⟩=(f9L F)[j]?:=fun j hj=>by
  rw [← hF,cell_of_row _ _ _ _ _ _ hrow,← frCells_get V.fly k j hk hj,← htk,List.getElem?_take_of_lt (by omega),Array.getElem?_toList]
 obtain ⟨ff,ft,fd,fk,fa,fy,fh,fp,fq⟩:=F
 obtain ⟨W1,HW1⟩:∃ W1,Hid (w.alloc (.cells #[.int .i64 0,.int .i64 0,.int .i64 0,.int .i64 0,.int .i64 0,.bool false,.int .i64 0,.int .i64 0,.int .i64 0] 104)=W1):=⟨_,rfl⟩
 have HB1:Hid (Below w.heap.size w W1):=by rw [← HW1.out]; exact (Below.refl _ _).alloc (Nat.le_refl _) _
 have HR1:Hid (W1.heap[w.heap.size]? = some (.cells #[.int .i64 0,.int .i64 0,.int .i64 0,.int .i64 0,.int .i64 0,.bool false,.int .i64 0,.int .i64 0,.int .i64 0] 104 (0,0))):=by rw [← HW1.out]; exact heap_alloc_new w _
 have hs1:W1.heap.size=w.heap.size+1:=by rw [← HW1.out]; simp
 obtain ⟨W2,HW2⟩:∃ W2,Hid (W1.alloc (.cells #[.int .i64 ff,.int .i64 ft,.int .i64 fd,.int .i64 fk,.int .i64 fa,.bool fy,.int .i64 fh,.int .i64 fp,.int .i64 fq] 104)=W2):=⟨_,rfl⟩
 have HB2:Hid (Below w.heap.size w W2):=by rw [← HW2.out]; exact HB1.out.alloc HB1.out.size _
 have HR2:Hid (W2.heap[w.heap.size]? = some (.cells #[.int .i64 0,.int .i64 0,.int .i64 0,.int .i64 0,.int .i64 0,.bool false,.int .i64 0,.int .i64 0,.int .i64 0] 104 (0,0))):=by rw [← HW2.out]; exact (Below.heap_alloc W1 _ _ (row_ltJ HR1.out)).trans HR1.out
 have HR3:Hid (W2.heap[w.heap.size+1]? = some (.cells #[.int .i64 ff,.int .i64 ft,.int .i64 fd,.int .i64 fk,.int .i64 fa,.bool fy,.int .i64 fh,.int .i64 fp,.int .i64 fq] 104 (0,0))):=by rw [← HW2.out,← hs1]; exact heap_alloc_new W1 _
 have H:=hid h
 have HWD:=hid (h.later HB2.out)
 obtain ⟨n,hn⟩:∃ n,Hid (V.fly.length=n):=⟨_,rfl⟩
 have hbig:V.fly.length≤1000000000000:=by have:=h.inv.fl; omega
 have c3:=(h.cells).2.2.2.1
 rw [hv] at c3
 have c3W1:=cell_later HB1.out c3
 have c3W2:=cell_later HB2.out c3
 obtain ⟨b0,b1,b2,b3,b4,b5,b6,b7,b8⟩:=nineO (o:=k * 9) hcl
 simp only at b0 b1 b2 b3 b4 b5 b6 b7 b8
 have y0:=cell_later HB1.out b0
 have y1:=cell_later HB1.out b1
 have y2:=cell_later HB1.out b2
 have y3:=cell_later HB1.out b3
 have y4:=cell_later HB1.out b4
 have y5:=cell_later HB1.out b5
 have y6:=cell_later HB1.out b6
 have y7:=cell_later HB1.out b7
 have y8:=cell_later HB1.out b8
 have HT1:=hid (fr_take (c:=cp) (HFr.out.later HB2.out) (Nat.le_of_lt hk))
 obtain ⟨o2,ho2⟩:∃ o2,o2=if cp=k+1 then 0 else (k+1) * 9:=⟨_,rfl⟩
 have HT2:=hid (fr_drop (c:=cp - (k+1)) (o2:=o2) (k:=k+1) HFr.out hk (fun hx=>by rw [ho2,if_neg (by omega)]; omega))
 have hA1:(if cp=k+1 then some (⟨g,0,none⟩:Addr) else some ⟨g,(k+1) * 9,none⟩)=some ⟨g,o2,none⟩:=by rw [ho2]; split <;> rfl
 have HLs:Hid (V.fly.take k ++ V.fly.drop (k+1)=V.fly.eraseIdx k):=(List.eraseIdx_eq_take_drop_succ V.fly k).symm
 have htl:(V.fly.take k).length=k:=by rw [List.length_take]; omega
 have hdl:(V.fly.drop (k+1)).length=V.fly.length - (k+1):=by rw [List.length_drop]
 obtain ⟨LT,HLT⟩:∃ LT,Hid (V.fly.take k=LT):=⟨_,rfl⟩
 obtain ⟨LD,HLD⟩:∃ LD,Hid (V.fly.drop (k+1)=LD):=⟨_,rfl⟩
 rw [HLT.out] at HT1 HLs htl
 rw [HLD.out] at HT2 HLs hdl
 rw [hn.out] at c3 c3W1 c3W2 hk hbig hnc hdl HT2
 have hw1:IntKind.i64.wrap ((k:Int)+1)=(k:Int)+1:=by rw [IntKind.wrap_i64]; omega
 have hb1:(0:Int)≤(k:Int)+1:=by omega
 have hb2:(k:Int)+1≤(n:Int):=by omega
 have hb3:(k:Int)≤(cp:Int):=by omega
 have hb4:((k:Int)+1).toNat=k+1:=by omega
 have hlx:=row_ltJ h.row
 have HBg:=hid (row_ltJ hrow)
 have hW1:=HW1.out
 have hW2:=HW2.out
 have HLtl:=hid htl
 have HLdl:=hid hdl
 have HV:=hid hv
 clear h hv hbg hrow hcm hcs htk hcl hF ho2 b0 b1 b2 b3 b4 b5 b6 b7 b8 htl hdl
 have HX3:Hid (∀ w3,W2.grownBy w3 none→w3.cell? ⟨Y.xb,3,none⟩=some (.slice (some ⟨g,0,none⟩) n cp)∧Below W2.heap.size W2 w3):=by
  intro w3 hg
  have hb:Below W2.heap.size W2 w3:=Below.grown (Below.refl _ _) hg (Nat.le_refl _) (fun j hj=>by cases hj)
  exact ⟨cell_later hb c3W2,hb⟩
 have HX4:Hid (∀ (v3:Value) (w3 w4:World) (ys:List Value),w3.ownsRow W2.heap.size 104 9 v3 k ys→Below W2.heap.size W2 w3→w3.grownBy w4 v3.ownBlock→w4.cell? ⟨Y.xb,3,none⟩=some (.slice (some ⟨g,0,none⟩) n cp)∧w4.frozen? ⟨Y.xb,3,none⟩=false∧Below W2.heap.size W2 w4):=by
  intro v3 w3 w4 ys ho hb hg
  have hb4:Below W2.heap.size W2 w4:=Below.grown hb hg hb.size (fun j hj=>(ho.lt j hj).1)
  exact ⟨cell_later hb4 c3W2,frozen_of_row _ _ _ _ _ ((HWD.out.later hb4).row),hb4⟩
 have HEnd:Hid (∀ (v4:Value) (w4:World),w4.ownsRow W2.heap.size 104 9 v4 (k+(n - (k+1))) (frCells LT ++ frCells LD)→Below W2.heap.size W2 w4→ROut w0 W2 (w4.setCell ⟨Y.xb,3,none⟩ v4) C Y aw cap zs (takeX V k) m):=by
  intro v4 w4 ho hb
  have hel:(V.fly.eraseIdx k).length=k+(n - (k+1)):=by rw [← HLs.out,List.length_append,HLtl.out,HLdl.out]
  refine HWD.out.framed (F:=V.fly.eraseIdx k) (S:=fun _=>False) (Kept.of_below hb) (fun _ x=>x.elim) ?_ ?_ (Nat.le_refl _) H.out.inv.take
  ·rw [hel,← HLs.out,frCells_append]
   exact own_lower ho (Nat.le_trans H.out.bel.size HB2.out.size)
  ·cases hob:v4.ownBlock with
   | none=>exact .inl rfl
   | some g4=>exact .inr (.inr ⟨g4,rfl,(ho.lt g4 hob).1⟩)
 have HRows:Hid (∀ (v4:Value) (w4:World),Below W2.heap.size W2 w4→(w4.setCell ⟨Y.xb,3,none⟩ v4).heap[w.heap.size]? = some (.cells #[.int .i64 0,.int .i64 0,.int .i64 0,.int .i64 0,.int .i64 0,.bool false,.int .i64 0,.int .i64 0,.int .i64 0] 104 (0,0))∧(w4.setCell ⟨Y.xb,3,none⟩ v4).heap[w.heap.size+1]? = some (.cells #[.int .i64 ff,.int .i64 ft,.int .i64 fd,.int .i64 fk,.int .i64 fa,.bool fy,.int .i64 fh,.int .i64 fp,.int .i64 fq] 104 (0,0))):=by
  intro v4 w4 hb
  have hk1:Kept (In1 Y.xb) w4 (w4.setCell ⟨Y.xb,3,none⟩ v4):=(Kept.refl _ w4).set1 3 v4
  exact ⟨hk1.row ((hb.block _ (row_ltJ HR2.out)).trans HR2.out) (fun e=>by have:w.heap.size=Y.xb:=e; omega),hk1.row ((hb.block _ (row_ltJ HR3.out)).trans HR3.out) (fun e=>by have:w.heap.size+1=Y.xb:=e; omega)⟩
 have HNw:Hid (2000≤C w.heap.size):=by
  rcases Nat.lt_or_ge (C w.heap.size) 2000 with q|q
  ·have:=H.out.lt _ q; omega
  ·exact q
 go_enter Tryz.func130,Tryz.ntmps130
 go_wp2_with (first
  | (at_builtin; refine wpList_append_frs rfl _ _ rfl W2.heap.size 0 (.slice none 0 0) (.slice (some ⟨g,0,none⟩) k cp) [] LT rfl rfl (World.ownsRow_nil _ _ _ _) HT1.out (by rw [HLtl.out]; omega) (Nat.le_refl _) ?_; rw [HLtl.out,Nat.zero_add]; intro ad' cap' w3 hown hg _; obtain ⟨c3W3,hb3⟩:=HX3.out w3 hg; have HS3:=hid (And.intro hown hb3); clear hown hg hb3)
  | (at_builtin; refine wpList_append_frs rfl _ _ rfl W2.heap.size k (.slice ad' k cap') (.slice (some ⟨g,o2,none⟩) (n - (k+1)) (cp - (k+1))) ([] ++ frCells LT) LD rfl rfl HS3.out.1 (HT2.out.later (HB2.out.trans (HS3.out.2.mono HB2.out.size))) (by rw [HLdl.out]; omega) HS3.out.2.size ?_; rw [HLdl.out,List.nil_append]; intro ad4 cap4 w4 hown4 hg4 _; obtain ⟨c3W4,z3W4,hb4⟩:=HX4.out _ w3 w4 _ HS3.out.1 HS3.out.2 hg4; have HS4:=hid (HEnd.out _ w4 hown4 hb4); obtain ⟨hz5,hr5⟩:=HRows.out (.slice ad4 (k+(n - (k+1))) cap4) w4 hb4; obtain ⟨W5,HW5⟩:∃ W5,Hid (w4.setCell ⟨Y.xb,3,none⟩ (.slice ad4 (k+(n - (k+1))) cap4)=W5):=⟨_,rfl⟩; rw [HW5.out] at HS4 hz5 hr5; have HZ5:=hid hz5; have HR5:=hid hr5; obtain ⟨z0,z1,z2,z3,z4,z5,z6,z7,z8⟩:=nine (f:=0) (t:=0) (d:=0) (k:=0) (a:=0) (y:=false) (ph:=0) (pr:=0) (pa:=0) HZ5.out; obtain ⟨f0,f1,f2,f3,f4,f5,f6,f7,f8⟩:=frozen9 HZ5.out; obtain ⟨e0,e1,e2,e3,e4,e5,e6,e7,e8⟩:=nine HR5.out; have hW5:=HW5.out; clear hown4 hg4 hb4 hz5 hr5))
 obtain ⟨Yw,HY,HYR,HYK⟩:=stored9 HZ5.out ff ft fd fk fa fy fh fp fq
 rw [HY.out]
 refine bodyPost_ret (results_row2 rfl _ _ w.heap.size 104 _ (0,0) _ rfl (HYR.out) Tryz.underlying104 rfl (by kernel_rfl)) rfl ?_
 refine ⟨rfl,?_⟩
 obtain ⟨C',Y',g1,g2,g3',g4⟩:=HS4.out
 have g3:Kept (OwnX C) w W5:=(Kept.of_below HB2.out).trans g3'
 have hn5:2000≤C' w.heap.size:=by rw [g4 _ (row_ltJ HR2.out)]; exact HNw.out
 exact ⟨C',Y',g1.far HYK.out (fun x hx=>by rw [show x=w.heap.size from hx]; exact hn5) (fun x hx=>by rw [show x=w.heap.size from hx]; exact H.out.bel.size),g2,⟨HYK.out.os.trans g3.os,HYK.out.tape.trans g3.tape,HYK.out.output.trans g3.output,Nat.le_trans g3.size HYK.out.size,fun y hy hs=>(HYK.out.block y (Nat.lt_of_lt_of_le hy g3.size) (fun e=>by have:y=w.heap.size:=e; omega)).trans (g3.block y hy hs)⟩,fun x hx=>g4 x (Nat.lt_of_lt_of_le hx HB2.out.size)⟩
end
section
variable {w0 w w':World} {C C':Nat→Nat} {Y:YB} {aw:Option Addr} {cap m m':Nat} {zs:List Int} {V V':PX}
theorem RW.flyForm (h:RW w0 w C Y aw cap zs V m):∃ a c,Y.fv=.slice a V.fly.length c:=by
 rcases h.fly.2 with ⟨h1,h0⟩|⟨g,cp,cur,h1,-⟩
 ·exact ⟨none,0,by rw [h1,h0]⟩
 ·exact ⟨_,_,h1⟩
theorem rtake_no (s:Int) (h:RW w0 w C Y aw cap zs V m) (hs:¬ (0≤s∧s<V.fly.length)) (hm:m≤100000000) :
  Calls Tryz.prog 130 #[.pointer (some ⟨Y.xb,0,none⟩),.int .i64 s] w fun e w'=>e=.returned (.tuple #[frV 0 0 0 0 0 false 0 0 0,.bool false])∧Below w.heap.size w w':=by
 obtain ⟨a,c,hv⟩:=h.flyForm
 have c3:=(h.cells).2.2.2.1
 rw [hv] at c3
 obtain ⟨W1,HW1⟩:∃ W1,Hid (w.alloc (.cells #[.int .i64 0,.int .i64 0,.int .i64 0,.int .i64 0,.int .i64 0,.bool false,.int .i64 0,.int .i64 0,.int .i64 0] 104)=W1):=⟨_,rfl⟩
 have HB1:Hid (Below w.heap.size w W1):=by rw [← HW1.out]; exact (Below.refl _ _).alloc (Nat.le_refl _) _
 have HR1:Hid (W1.heap[w.heap.size]? = some (.cells #[.int .i64 0,.int .i64 0,.int .i64 0,.int .i64 0,.int .i64 0,.bool false,.int .i64 0,.int .i64 0,.int .i64 0] 104 (0,0))):=by rw [← HW1.out]; exact heap_alloc_new w _
 have c3W1:=cell_later HB1.out c3
 have hbig:V.fly.length≤1000000000000:=by have:=h.inv.fl; omega
 obtain ⟨n,hn⟩:∃ n,Hid (V.fly.length=n):=⟨_,rfl⟩
 rw [hn.out] at c3 c3W1 hs hbig
 have hW1:=HW1.out
 obtain ⟨z0,z1,z2,z3,z4,z5,z6,z7,z8⟩:=nine (f:=0) (t:=0) (d:=0) (k:=0) (a:=0) (y:=false) (ph:=0) (pr:=0) (pa:=0) HR1.out
 obtain ⟨f0,f1,f2,f3,f4,f5,f6,f7,f8⟩:=frozen9 HR1.out
 clear h hv
 by_cases hneg:s<0
 ·go_enter Tryz.func130,Tryz.ntmps130
  go_wp2_with fail
  obtain ⟨Yw,HY,HYR,HYK⟩:=stored9 HR1.out 0 0 0 0 0 false 0 0 0
  rw [HY.out]
  refine bodyPost_ret (results_row2 rfl _ _ w.heap.size 104 _ (0,0) _ rfl (HYR.out) Tryz.underlying104 rfl (by kernel_rfl)) rfl ?_
  exact ⟨rfl,HYK.out.below HB1.out.size (fun y hy=>Nat.le_of_eq (show y=w.heap.size from hy).symm) HB1.out⟩
 ·have hge:(n:Int)≤s:=by omega
  go_enter Tryz.func130,Tryz.ntmps130
  go_wp2_with fail
  obtain ⟨Yw,HY,HYR,HYK⟩:=stored9 HR1.out 0 0 0 0 0 false 0 0 0
  rw [HY.out]
  refine bodyPost_ret (results_row2 rfl _ _ w.heap.size 104 _ (0,0) _ rfl (HYR.out) Tryz.underlying104 rfl (by kernel_rfl)) rfl ?_
  exact ⟨rfl,HYK.out.below HB1.out.size (fun y hy=>Nat.le_of_eq (show y=w.heap.size from hy).symm) HB1.out⟩
theorem ROut.later {w2:World} (h:ROut w0 w w' C Y aw cap zs V' m') (hb:Below w'.heap.size w' w2):ROut w0 w w2 C Y aw cap zs V' m':=by
 obtain ⟨C1,Y1,g1,g2,g3,g4⟩:=h
 exact ROut.step g2 g3 g4 (g1.out hb (Nat.le_refl _))
theorem alloc9 (w:World) (f t d k a:Int) (y:Bool) (ph pr pa:Int):Below w.heap.size w (w.alloc (.cells #[.int .i64 f,.int .i64 t,.int .i64 d,.int .i64 k,.int .i64 a,.bool y,.int .i64 ph,.int .i64 pr,.int .i64 pa] 104)):=(Below.refl _ _).alloc (Nat.le_refl _) _
theorem rdrop_ok (k:Nat) (h:RW w0 w C Y aw cap zs V m) (hk:k<V.fly.length) (hm:m≤100000000) :
  Calls Tryz.prog 93 #[.pointer (some ⟨Y.xb,0,none⟩),.int .i64 (k:Int)] w fun e w'=>e=.returned (.int .i64 0)∧ROut w0 w w' C Y aw cap zs (takeX V k) m:=by
 have H:=hid h
 have HM:=hid hm
 have HK:=hid hk
 clear h hm hk
 go_enter Tryz.func93,Tryz.ntmps93
 go_wp2_with fail
 refine (rtake_ok k _ H.out HK.out rfl HM.out).mono ?_
 rintro e w1 ⟨rfl,h1⟩
 have H1:=hid (h1.later (alloc9 w1 (V.fly[k]'HK.out).f (V.fly[k]'HK.out).t (V.fly[k]'HK.out).d (V.fly[k]'HK.out).k (V.fly[k]'HK.out).a (V.fly[k]'HK.out).y (V.fly[k]'HK.out).ph (V.fly[k]'HK.out).pr (V.fly[k]'HK.out).pa))
 clear h1
 generalize (V.fly[k]'HK.out)=F at H1 ⊢
 obtain ⟨ff,ft,fd,fk,fa,fy,fh,fp,fq⟩:=F
 go_wp2_with fail
 go_ret
 exact ⟨rfl,H1.out⟩
theorem rdrop_no (s:Int) (h:RW w0 w C Y aw cap zs V m) (hs:¬ (0≤s∧s<V.fly.length)) (hm:m≤100000000) :
  Calls Tryz.prog 93 #[.pointer (some ⟨Y.xb,0,none⟩),.int .i64 s] w fun e w'=>e=.returned (.int .i64 4)∧Below w.heap.size w w':=by
 have H:=hid h
 have HM:=hid hm
 have HS:=hid (show ¬ (0≤s∧s<(V.fly.length:Int)) from hs)
 clear h hm hs
 go_enter Tryz.func93,Tryz.ntmps93
 go_wp2_with fail
 refine (rtake_no s H.out HS.out HM.out).mono ?_
 rintro e w1 ⟨rfl,h1⟩
 have H1:=hid (h1.trans ((alloc9 w1 0 0 0 0 0 false 0 0 0).mono h1.size))
 clear h1
 go_wp2_with fail
 go_ret
 exact ⟨rfl,H1.out⟩
end
theorem fr_one {w:World} {b:Nat} {F:F9} (h:w.heap[b]? = some (.cells (f9L F).toArray 104 (0,0))):IsFr w (.slice (some ⟨b,0,none⟩) 1 1) [F]:=by
 refine ⟨_,1,rfl,fun i hi=>⟨b,0,rfl,fun j hj=>?_⟩⟩
 have hi0:i=0:=by simp only [List.length_cons,List.length_nil] at hi; omega
 subst hi0
 rw [cell_of_row _ _ _ _ _ _ h]
 simp only [Nat.zero_mul,Nat.zero_add,List.getElem_cons_zero,List.getElem?_toArray]
theorem twice_list {α:Type} (L:List α) (k:Nat) (hk:k<L.length):L.take (k+1) ++ [L[k]'hk] ++ L.drop (k+1)=L.take k ++ (L[k]'hk) :: L.drop k:=by
 rw [List.take_succ_eq_append_getElem hk,List.drop_eq_getElem_cons hk]
 simp only [List.append_assoc,List.cons_append,List.nil_append]
section
variable {w0 w w':World} {C C':Nat→Nat} {Y:YB} {aw:Option Addr} {cap m m':Nat} {zs:List Int} {V V':PX}
theorem rtwice_no (s:Int) (h:RW w0 w C Y aw cap zs V m) (hs:¬ (0≤s∧s<V.fly.length)) (hm:m≤100000000) :
  Calls Tryz.prog 94 #[.pointer (some ⟨Y.xb,0,none⟩),.int .i64 s] w fun e w'=>e=.returned (.int .i64 4)∧w'=w:=by
 obtain ⟨a,c,hv⟩:=h.flyForm
 have c3:=(h.cells).2.2.2.1
 rw [hv] at c3
 have hbig:V.fly.length≤1000000000000:=by have:=h.inv.fl; omega
 obtain ⟨n,hn⟩:∃ n,Hid (V.fly.length=n):=⟨_,rfl⟩
 rw [hn.out] at c3 hs hbig
 clear h hv
 by_cases hneg:s<0
 ·go_enter Tryz.func94,Tryz.ntmps94
  go_wp2_with fail
  go_ret
  exact ⟨rfl,rfl⟩
 ·have hge:(n:Int)≤s:=by omega
  go_enter Tryz.func94,Tryz.ntmps94
  go_wp2_with fail
  go_ret
  exact ⟨rfl,rfl⟩
theorem rtwice_ok (k:Nat) (F:F9) (h:RW w0 w C Y aw cap zs V m) (hk:k<V.fly.length) (hF:V.fly[k]'hk=F) (hm:m≤100000000) :
  Calls Tryz.prog 94 #[.pointer (some ⟨Y.xb,0,none⟩),.int .i64 (k:Int)] w fun e w'=>e=.returned (.int .i64 0)∧ROut w0 w w' C Y aw cap zs (twiceX V k F) (m+1):=by
 obtain ⟨g,cp,cur,hv,hbg,hrow,hnc,hcm,hcs,htk⟩:∃ g cp,∃ cur:Array Value,Y.fv=.slice (some ⟨g,0,none⟩) V.fly.length cp∧w0.heap.size≤g∧w.heap[g]? = some (.cells cur 104 (0,0))∧V.fly.length≤cp∧cp≤maxLen∧cur.size=cp * 9∧cur.toList.take (V.fly.length * 9)=frCells V.fly:=by
  rcases h.fly.2 with ⟨-,h0⟩|h1
  ·omega
  ·exact h1
 have HFr:=hid (IsFr.owned h.fly)
 rw [hv] at HFr
 have hcl:∀ j,j<9→w.cell? ⟨g,k * 9+j,none⟩=(f9L F)[j]?:=fun j hj=>by
  rw [← hF,cell_of_row _ _ _ _ _ _ hrow,← frCells_get V.fly k j hk hj,← htk,List.getElem?_take_of_lt (by omega),Array.getElem?_toList]
 have HMem:Hid (F∈V.fly):=by rw [← hF]; exact List.getElem_mem _
 have HLs:Hid (V.fly.take (k+1) ++ [F] ++ V.fly.drop (k+1)=V.fly.take k ++ F :: V.fly.drop k):=by rw [← hF]; exact twice_list _ _ hk
 obtain ⟨ff,ft,fd,fk,fa,fy,fh,fp,fq⟩:=F
 have H:=hid h
 obtain ⟨n,hn⟩:∃ n,Hid (V.fly.length=n):=⟨_,rfl⟩
 have hbig:V.fly.length≤100000000000:=by have:=h.inv.fl; omega
 have c3:=(h.cells).2.2.2.1
 rw [hv] at c3
 have HT1:=hid (fr_take (c:=cp) (k:=k+1) HFr.out hk)
 obtain ⟨o2,ho2⟩:∃ o2,o2=if cp=k+1 then 0 else (k+1) * 9:=⟨_,rfl⟩
 have HT2:=hid (fr_drop (c:=cp - (k+1)) (o2:=o2) (k:=k+1) HFr.out hk (fun hx=>by rw [ho2,if_neg (by omega)]; omega))
 have hA1:(if cp=k+1 then some (⟨g,0,none⟩:Addr) else some ⟨g,(k+1) * 9,none⟩)=some ⟨g,o2,none⟩:=by rw [ho2]; split <;> rfl
 have htl:(V.fly.take (k+1)).length=k+1:=by rw [List.length_take]; omega
 have hdl:(V.fly.drop (k+1)).length=V.fly.length - (k+1):=by rw [List.length_drop]
 obtain ⟨LT,HLT⟩:∃ LT,Hid (V.fly.take (k+1)=LT):=⟨_,rfl⟩
 obtain ⟨LD,HLD⟩:∃ LD,Hid (V.fly.drop (k+1)=LD):=⟨_,rfl⟩
 rw [HLT.out] at HT1 HLs htl
 rw [HLD.out] at HT2 HLs hdl
 rw [hn.out] at c3 hk hbig hnc hdl HT2
 have hw1:IntKind.i64.wrap ((k:Int)+1)=(k:Int)+1:=by rw [IntKind.wrap_i64]; omega
 have hb1:(0:Int)≤(k:Int)+1:=by omega
 have hb2:(k:Int)+1≤(n:Int):=by omega
 have hb3:(k:Int)+1≤(cp:Int):=by omega
 have hb4:((k:Int)+1).toNat=k+1:=by omega
 have hlx:=row_ltJ h.row
 have HLtl:=hid htl
 have HLdl:=hid hdl
 have HX3:Hid (∀ w3,w.grownBy w3 none→w3.cell? ⟨Y.xb,3,none⟩=some (.slice (some ⟨g,0,none⟩) n cp)∧Below w.heap.size w w3∧∀ j,j<9→w3.cell? ⟨g,k * 9+j,none⟩=(f9L ⟨ff,ft,fd,fk,fa,fy,fh,fp,fq⟩)[j]?):=by
  intro w3 hg
  have hb:Below w.heap.size w w3:=Below.grown (Below.refl _ _) hg (Nat.le_refl _) (fun j hj=>by cases hj)
  refine ⟨cell_later hb c3,hb,fun j hj=>?_⟩
  have q:=hcl j hj
  have hr:w3.heap[g]? = some (.cells cur 104 (0,0)):=(hb.block _ (row_ltJ hrow)).trans hrow
  rw [cell_of_row _ _ _ _ _ _ hrow] at q
  rw [cell_of_row _ _ _ _ _ _ hr,q]
 have HV:=hid hv
 have HM:=hid hm
 clear h hv hbg hrow hcm hcs htk hcl hF ho2 htl hdl hm
 have HGo:Hid (∀ (v:Value) (wa wb:World) (q:Nat) (ys:List Value),wa.ownsRow w.heap.size 104 9 v q ys→Below w.heap.size w wa→wa.grownBy wb v.ownBlock→wb.cell? ⟨Y.xb,3,none⟩=some (.slice (some ⟨g,0,none⟩) n cp)∧wb.frozen? ⟨Y.xb,3,none⟩=false∧Below w.heap.size w wb):=by
  intro v wa wb q ys ho hb hg
  have hb4:Below w.heap.size w wb:=Below.grown hb hg hb.size (fun j hj=>(ho.lt j hj).1)
  exact ⟨cell_later hb4 c3,frozen_of_row _ _ _ _ _ ((H.out.later hb4).row),hb4⟩
 have HEnd:Hid (∀ (v4:Value) (w4:World),w4.ownsRow w.heap.size 104 9 v4 (k+1+1+(n - (k+1))) (frCells LT ++ frCells [⟨ff,ft,fd,fk,fa,fy,fh,fp,fq⟩] ++ frCells LD)→Below w.heap.size w w4→ROut w0 w (w4.setCell ⟨Y.xb,3,none⟩ v4) C Y aw cap zs (twiceX V k ⟨ff,ft,fd,fk,fa,fy,fh,fp,fq⟩) (m+1)):=by
  intro v4 w4 ho hb
  have hel:(V.fly.take k ++ ⟨ff,ft,fd,fk,fa,fy,fh,fp,fq⟩ :: V.fly.drop k).length=k+1+1+(n - (k+1)):=by rw [← HLs.out,List.length_append,List.length_append,HLtl.out,HLdl.out]; rfl
  refine H.out.framed (F:=V.fly.take k ++ ⟨ff,ft,fd,fk,fa,fy,fh,fp,fq⟩ :: V.fly.drop k) (S:=fun _=>False) (Kept.of_below hb) (fun _ x=>x.elim) ?_ ?_ (Nat.le_succ _) (H.out.inv.twice HMem.out)
  ·rw [hel,← HLs.out,frCells_append,frCells_append]
   exact own_lower ho H.out.bel.size
  ·cases hob:v4.ownBlock with
   | none=>exact .inl rfl
   | some g4=>exact .inr (.inr ⟨g4,rfl,(ho.lt g4 hob).1⟩)
 have HX4:Hid (∀ (v3:Value) (w3:World) (ys:List Value),w3.ownsRow w.heap.size 104 9 v3 (k+1) ys→Below w.heap.size w w3→(w3.alloc (.cells #[.int .i64 ff,.int .i64 ft,.int .i64 fd,.int .i64 fk,.int .i64 fa,.bool fy,.int .i64 fh,.int .i64 fp,.int .i64 fq] 104)).ownsRow w.heap.size 104 9 v3 (k+1) ys∧Below w.heap.size w (w3.alloc (.cells #[.int .i64 ff,.int .i64 ft,.int .i64 fd,.int .i64 fk,.int .i64 fa,.bool fy,.int .i64 fh,.int .i64 fp,.int .i64 fq] 104))∧IsFr (w3.alloc (.cells #[.int .i64 ff,.int .i64 ft,.int .i64 fd,.int .i64 fk,.int .i64 fa,.bool fy,.int .i64 fh,.int .i64 fp,.int .i64 fq] 104)) (.slice (some ⟨w3.heap.size,0,none⟩) 1 1) [⟨ff,ft,fd,fk,fa,fy,fh,fp,fq⟩]):=by
  intro v3 w3 ys ho hb
  exact ⟨own_kept ho (Kept.of_below (S:=fun _=>False) (alloc9 w3 ff ft fd fk fa fy fh fp fq)) (fun _ _ e=>e),hb.alloc hb.size _,fr_one (heap_alloc_new w3 _)⟩
 go_enter Tryz.func94,Tryz.ntmps94
 go_wp2_with (first
  | (at_builtin; refine wpList_append_frs rfl _ _ rfl w.heap.size 0 (.slice none 0 0) (.slice (some ⟨g,0,none⟩) (k+1) cp) [] LT rfl rfl (World.ownsRow_nil _ _ _ _) HT1.out (by rw [HLtl.out]; omega) (Nat.le_refl _) ?_; rw [HLtl.out,Nat.zero_add,List.nil_append]; intro ad' cap' w3 hown hg _; obtain ⟨c3W3,hb3',hcl3⟩:=HX3.out w3 hg; obtain ⟨y0,y1,y2,y3,y4,y5,y6,y7,y8⟩:=nineO (o:=k * 9) hcl3; simp only at y0 y1 y2 y3 y4 y5 y6 y7 y8; have HS3:=hid (HX4.out _ w3 _ hown hb3'); clear hown hg hb3' hcl3)
  | (at_builtin; refine wpList_append_frs rfl _ _ rfl w.heap.size (k+1) (.slice ad' (k+1) cap') (.slice (some ⟨w3.heap.size,0,none⟩) 1 1) (frCells LT) [⟨ff,ft,fd,fk,fa,fy,fh,fp,fq⟩] rfl rfl HS3.out.1 HS3.out.2.2 (by rw [List.length_singleton]; omega) HS3.out.2.1.size ?_; rw [List.length_singleton]; intro ad4 cap4 w4 hown4 hg4 _; obtain ⟨c3W4,-,hb4'⟩:=HGo.out _ _ w4 _ _ HS3.out.1 HS3.out.2.1 hg4; have HS4:=hid (And.intro hown4 hb4'); clear hown4 hg4 hb4')
  | (at_builtin; refine wpList_append_frs rfl _ _ rfl w.heap.size (k+1+1) (.slice ad4 (k+1+1) cap4) (.slice (some ⟨g,o2,none⟩) (n - (k+1)) (cp - (k+1))) _ LD rfl rfl HS4.out.1 (HT2.out.later HS4.out.2) (by rw [HLdl.out]; omega) HS4.out.2.size ?_; rw [HLdl.out]; intro ad5 cap5 w5 hown5 hg5 _; obtain ⟨c3W5,z3W5,hb5⟩:=HGo.out _ w4 w5 _ _ HS4.out.1 HS4.out.2 hg5; have HS5:=hid (HEnd.out _ w5 hown5 hb5); clear hown5 hg5 hb5))
 go_ret
 exact ⟨rfl,HS5.out⟩
end
end Go.Proofs.YtadhpkopkkjmfaaGreatDoor
