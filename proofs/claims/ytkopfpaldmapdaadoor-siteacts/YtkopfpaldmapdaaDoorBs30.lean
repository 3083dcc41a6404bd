/-
  On the way to SActsProof: SA SC.
-/
import Derived.Test.YtkopfpaldmapdaaDoorBs28
set_option maxHeartbeats 8000000
set_option maxRecDepth 100000
namespace Go.Proofs.YtkopfpaldmapdaaDoor
open Go.RowKit
theorem keptCell {S:Nat→Prop} {w w':World} {a:Addr} {v:Value} (h:Kept S w w') (hc:w.cell? a=some v) (hs:¬ S a.block):w'.cell? a=some v:=by
 rw [World.cell?_of_block (w:=w) (h.block a.block (cell_lt hc) hs)]; exact hc
theorem cell3_other {w:World} {g:Nat} {a b c:Value} {ad:Addr} {v:Value} (h:w.cell? ad=some v) (hne:ad.block≠g):(((w.setCell ⟨g,0,none⟩ a).setCell ⟨g,1,none⟩ b).setCell ⟨g,2,none⟩ c).cell? ad=some v:=by
 rw [World.cell?_of_block (w:=w) (by rw [heap_setCell_other _ _ _ _ hne,heap_setCell_other _ _ _ _ hne,heap_setCell_other _ _ _ _ hne])]
 exact h
structure FrSt (w wx:World) (b g:Nat) (f t d k a:Int) (y:Bool) (ph pr pa:Int) (x0 x1 x2:Nat):Prop where
 bel:Below w.heap.size w wx
 fr:wx.heap[b]? = some (.cells #[.int .i64 f,.int .i64 t,.int .i64 d,.int .i64 k,.int .i64 a,.bool y,.int .i64 ph,.int .i64 pr,.int .i64 pa] 36 (0,0))
 st:wx.heap[g]? = some (.cells #[.int .i64 (x0:Int),.int .i64 (x1:Int),.int .i64 (x2:Int)] 34 (0,0))
 lb:w.heap.size≤b
 lg:b<g
section
variable {w wx:World} {b g:Nat} {f t d k a:Int} {y:Bool} {ph pr pa:Int} {x0 x1 x2:Nat}
theorem FrSt.later {wy:World} (h:FrSt w wx b g f t d k a y ph pr pa x0 x1 x2) (hb:Below wx.heap.size wx wy):FrSt w wy b g f t d k a y ph pr pa x0 x1 x2 :=
 ⟨h.bel.trans (hb.mono h.bel.size),(hb.block _ (row_ltJ h.fr)).trans h.fr,(hb.block _ (row_ltJ h.st)).trans h.st,h.lb,h.lg⟩
theorem FrSt.cells (h:FrSt w wx b g f t d k a y ph pr pa x0 x1 x2):wx.cell? ⟨g,0,none⟩=some (.int .i64 (x0:Int))∧wx.cell? ⟨g,1,none⟩=some (.int .i64 (x1:Int))∧wx.cell? ⟨g,2,none⟩=some (.int .i64 (x2:Int)):=by
 refine ⟨?_,?_,?_⟩ <;> rw [cell_of_row _ _ _ _ _ _ h.st] <;> rfl
end
theorem shear_inB (A:Nat→Addr) (w0 w:World) (s j mb p q n:Nat) (id f d k a ph pr pa:Nat) (y:Bool) (R:Nat→Bool) (E:Nat→Nat×St) (over:Bool) (B:ByteArray) (l:Int) (g:HOut) (o:POut)
  (h:SP w0 w s j mb p q id R n E over B l) (hE:HeldE w0 A) (hn:∀ d,d<6→(E d).1<4294967296) (hf:frOk f id d k a ph pr pa) (hg:hearL (E d).2 (R d) k a ph=g) (ho:pOut E over B l d g.st.ph g.st.pr g.st.at_=o) :
  Calls Tryd.prog 14 #[.pointer (some ⟨s,0,none⟩),frV f id d k a y ph pr pa] w fun e w'=>∃ v,e=.returned (.tuple #[v,ev A o.c])∧AnsV w' v o.c id f d a g∧SP w0 w' s j mb p q id R n o.e o.over o.b o.l∧Kept (In3 j p q) w w'∧∀ a c,v=.slice (some a) 1 c→w.heap.size≤a.block:=by
 obtain ⟨W,HW⟩:∃ W,Hid (w.alloc (.cells #[.int .i64 f,.int .i64 id,.int .i64 d,.int .i64 k,.int .i64 a,.bool y,.int .i64 ph,.int .i64 pr,.int .i64 pa] 36)=W):=⟨_,rfl⟩
 have HB:Hid (Below w.heap.size w W):=by rw [← HW.out]; exact (Below.refl _ _).alloc (Nat.le_refl _) _
 have HR:Hid (W.heap[w.heap.size]? = some (.cells #[.int .i64 f,.int .i64 id,.int .i64 d,.int .i64 k,.int .i64 a,.bool y,.int .i64 ph,.int .i64 pr,.int .i64 pa] 36 (0,0))):=by rw [← HW.out]; exact heap_alloc_new w _
 obtain ⟨c0,c1,c2,c3,c4,c5,c6,c7,c8⟩:=nine HR.out
 have hW:=HW.out
 have HF:Hid ((if frOk f id d k a ph pr pa then 0 else 2)=0):=if_pos hf
 have hd:d<6:=by have:=hf.2.2.1; omega
 have hk17:1≤k∧k≤7:=by have:=hf.2.2.2.1; omega
 have HS:=hid h
 have HE:=hid hE
 have HN:=hid hn
 obtain ⟨⟨sh,sp,sa⟩,HEd⟩:∃ x,Hid ((E d).2=x):=⟨_,rfl⟩
 rw [HEd.out] at hg
 have HG:=hid hg
 have HO:=hid ho
 have HEW:=hid ((hE.later h.jp.bel).later HB.out)
 clear h hf hn hg ho hE
 go_enter Tryd.func14,Tryd.ntmps14
 go_wp2_with (go_at_call 42; (with_reducible refine (wcheck_e A f id d k a y ph pr pa 0 _ HEW.out HF.out).mono ?_); rintro e w1 ⟨rfl,hb1⟩; unfold ev; have HB1:=hid (HB.out.trans (hb1.mono HB.out.size)); obtain ⟨x0,x1,x2⟩:=(HS.out.sr.later HB1.out).cells; have HR1:=hid ((hb1.block _ (row_ltJ HR.out)).trans HR.out); obtain ⟨c0,c1,c2,c3,c4,c5,c6,c7,c8⟩:=nine HR1.out; clear hb1)
 go_region
 all_goals go_upto_region 13 with fail
 have HS1:=hid (HS.out.later HB1.out)
 have hbs:=row_ltJ HR1.out
 obtain ⟨V,HV⟩:∃ V,Hid (w1.alloc (.cells #[.int .i64 0,.int .i64 0,.int .i64 0] 34)=V):=⟨_,rfl⟩
 have HBV:Hid (Below w1.heap.size w1 V):=by rw [← HV.out]; exact (Below.refl _ _).alloc (Nat.le_refl _) _
 have HRV:Hid (V.heap[w1.heap.size]? = some (.cells #[.int .i64 0,.int .i64 0,.int .i64 0] 34 (0,0))):=by rw [← HV.out]; exact heap_alloc_new w1 _
 have HFV:Hid (V.heap[w.heap.size]? = some (.cells #[.int .i64 f,.int .i64 id,.int .i64 d,.int .i64 k,.int .i64 a,.bool y,.int .i64 ph,.int .i64 pr,.int .i64 pa] 36 (0,0))):=(HBV.out.block _ hbs).trans HR1.out
 have HSV:=hid (HS1.out.later HBV.out)
 have hV:=HV.out
 have vx:=HSV.out.sr.cells.1
 have vc:V.cell? ⟨w.heap.size,2,none⟩=some (.int .i64 (d:Int)):=(nine HFV.out).2.2.1
 have hsl:=HS1.out.sr.lts.1
 have ns1:s≠w1.heap.size:=Nat.ne_of_lt hsl
 have nf1:w.heap.size≠w1.heap.size:=Nat.ne_of_lt hbs
 go_cut [7,8] from 13 (fun s7 s8 wx=>s8=.nilIface∧∃ g1,s7=.pointer (some ⟨g1,0,none⟩)∧FrSt w wx w.heap.size g1 f id d k a y ph pr pa sh sp sa)
 case first =>
  go_region_held3 (fun W=>W.cell? ⟨s,0,none⟩=some (.pointer (some ⟨j,0,none⟩))∧W.cell? ⟨w.heap.size,2,none⟩=some (.int .i64 (d:Int))) (first|go_keep|exact ⟨cell3_other (by assumption) ns1,cell3_other (by assumption) nf1⟩) (first|(go_at_call 40; (with_reducible refine (get_is j p d E over sh sp sa _ HS1.out.jp.jr.drew.drew hd HEd.out).mono ?_); rintro e w3 ⟨rfl,hb3⟩; have q1:=cell_later hb3 x0; have q2:=cell_later hb3 c2; have HFrS:=hid (And.intro (HB1.out.drew.drew.trans (hb3.mono HB1.out.size)) ((hb3.block _ hbs).trans HR1.out)); have hsz:=hb3.size; have hb3s:=row_ltJ HFrS.out.2; clear hb3)|(go_at_call 40; (with_reducible refine (get_is j p d E over sh sp sa _ HSV.out.jp.jr.drew.drew hd HEd.out).mono ?_); rintro e w3 ⟨rfl,hb3⟩; have q1:=cell_later hb3 vx; have q2:=cell_later hb3 vc; have HR3:=hid ((hb3.block _ (row_ltJ HRV.out)).trans HRV.out); have HFrS:=hid (And.intro ((HB1.out.trans (HBV.out.mono HB1.out.size)).drew.drew.trans (hb3.mono (Nat.le_trans HB1.out.size HBV.out.size))) ((hb3.block _ (row_ltJ HFV.out)).trans HFV.out)); have c30:w3.cell? ⟨w1.heap.size,0,none⟩=some (.int .i64 0):=cell_of_row _ _ 0 _ _ _ HR3.out; have c31:w3.cell? ⟨w1.heap.size,1,none⟩=some (.int .i64 0):=cell_of_row _ _ 1 _ _ _ HR3.out; have c32:w3.cell? ⟨w1.heap.size,2,none⟩=some (.int .i64 0):=cell_of_row _ _ 2 _ _ _ HR3.out; have z30:=frozen_of_row _ _ 0 _ _ HR3.out; have z31:=frozen_of_row _ _ 1 _ _ HR3.out; have z32:=frozen_of_row _ _ 2 _ _ HR3.out; clear hb3))
  all_goals go_wp2_with fail
  all_goals go_meet
  ·exact ⟨rfl,_,rfl,⟨HFrS.out.1.alloc HFrS.out.1.size _,(Below.heap_alloc w3 _ _ hb3s).trans HFrS.out.2,heap_alloc_new w3 _,Nat.le_refl _,hb3s⟩⟩
  ·exact ⟨rfl,_,rfl,⟨((HFrS.out.1.setCell (Nat.le_of_lt hbs) _).setCell (Nat.le_of_lt hbs) _).setCell (Nat.le_of_lt hbs) _,by rw [heap_setCell_other _ _ _ _ nf1,heap_setCell_other _ _ _ _ nf1,heap_setCell_other _ _ _ _ nf1]; exact HFrS.out.2,set3 HR3.out _ _ _,Nat.le_refl _,hbs⟩⟩
 obtain ⟨rfl,g1,rfl,hfs⟩:=hcut
 clear HBV HRV HFV HSV hV HV vx vc hsl ns1 nf1 hbs HS1 HR1 HB1 x0 x1 x2 c0 c1 c2 c3 c4 c5 c6 c7 c8 HR HB hW HW HEW HF
 rename_i wc
 have HFrS:=hid hfs
 clear hfs
 generalize wc=w2 at *
 obtain ⟨c0,c1,c2,c3,c4,c5,c6,c7,c8⟩:=nine HFrS.out.fr
 obtain ⟨s0,s1,s2⟩:=HFrS.out.cells
 have HSR:=hid (HS.out.sr.later HFrS.out.bel)
 obtain ⟨⟨th,tp,ta⟩,gk,gy⟩:=g
 simp only at HO
 go_wp2_with (go_at_call 43; (with_reducible refine (step_is s j mb n d a ph sh sp sa (id:Int) (f:Int) (id:Int) (pr:Int) (pa:Int) y R _ k ⟨⟨th,tp,ta⟩,gk,gy⟩ HSR.out hd hk17 HG.out).mono ?_); rintro e w3 ⟨rfl,hb3⟩; simp only)
 have HF3:=hid (HFrS.out.later hb3)
 clear hb3
 obtain ⟨X,HX⟩:∃ X,Hid (w3.alloc (.cells #[.int .i64 (th:Int),.int .i64 (tp:Int),.int .i64 (ta:Int)] 34)=X):=⟨_,rfl⟩
 obtain ⟨g2,Hg2⟩:∃ n,Hid (w3.heap.size=n):=⟨_,rfl⟩
 have HFX:Hid (FrSt w X w.heap.size g2 f id d k a y ph pr pa th tp ta):=by
  rw [← HX.out,← Hg2.out]
  exact ⟨HF3.out.bel.alloc HF3.out.bel.size _,(Below.heap_alloc w3 _ _ (row_ltJ HF3.out.fr)).trans HF3.out.fr,heap_alloc_new w3 _,Nat.le_refl _,row_ltJ HF3.out.fr⟩
 rw [HX.out,Hg2.out]
 clear HF3 HFrS HX Hg2 c0 c1 c2 c3 c4 c5 c6 c7 c8 s0 s1 s2 HSR
 have HSX:=hid (HS.out.later HFX.out.bel)
 obtain ⟨x0,x1,x2⟩:=HSX.out.sr.cells
 have c2:=(nine HFX.out.fr).2.2.1
 obtain ⟨s0,s1,s2⟩:=HFX.out.cells
 have HNF:Hid (∀ x,w.heap.size≤x→¬ In3 j p q x):=fun x hx e=>by
  obtain ⟨_,_,e1,e2,e3⟩:=HS.out.lts
  unfold In3 at e; omega
 have HNG:Hid (¬ In3 j p q g2):=HNF.out _ (Nat.le_of_lt HFX.out.lg)
 go_cut [12] from 13 (fun s12 wx=>s12=ev A o.c∧wx.heap[w.heap.size]? = some (.cells #[.int .i64 f,.int .i64 id,.int .i64 d,.int .i64 k,.int .i64 a,.bool y,.int .i64 ph,.int .i64 pr,.int .i64 pa] 36 (0,0)) ∧
  wx.heap[g2]? = some (.cells #[.int .i64 (th:Int),.int .i64 (tp:Int),.int .i64 (ta:Int)] 34 (0,0))∧SP w0 wx s j mb p q id R n o.e o.over o.b o.l∧Kept (In3 j p q) w wx)
 case first =>
  go_region_held3 (fun W=>W.cell? ⟨s,0,none⟩=some (.pointer (some ⟨j,0,none⟩))∧W.cell? ⟨w.heap.size,2,none⟩=some (.int .i64 (d:Int))∧W.cell? ⟨g2,0,none⟩=some (.int .i64 (th:Int))∧W.cell? ⟨g2,1,none⟩=some (.int .i64 (tp:Int))∧W.cell? ⟨g2,2,none⟩=some (.int .i64 (ta:Int))) (go_keep) (first|(go_at_call 44; (with_reducible refine (jput_any (d:Int) (th:Int) (tp:Int) (ta:Int) o HO.out HSX.out.jp.drew HE.out HN.out).mono ?_); rintro e w5 ⟨rfl,hj5,hk5⟩; have q1:=keptCell hk5 x0 HSX.out.ns; have q2:=keptCell hk5 c2 (HNF.out _ (Nat.le_refl _)); have q3:=keptCell hk5 s0 HNG.out; have q4:=keptCell hk5 s1 HNG.out; have q5:=keptCell hk5 s2 HNG.out; have HJ5:=hid hj5; have HK5:=hid hk5; clear hj5 hk5))
  all_goals go_wp2_with fail
  all_goals go_meet
  all_goals exact ⟨rfl,HK5.out.row HFX.out.fr (HNF.out _ (Nat.le_refl _)),HK5.out.row HFX.out.st HNG.out,HSX.out.drew.turn HJ5.out HK5.out,(Kept.of_below HFX.out.bel).trans ((Kept.of_below (Below.refl _ _).drew).trans HK5.out)⟩
 obtain ⟨rfl,hr1,hr2,hs6,hk6⟩:=hcut
 clear HSX x0 x1 x2 c2 s0 s1 s2 HFX HNG HO HG
 rename_i wc
 have HR6:=hid hr1
 have HT6:=hid hr2
 have HS6:=hid hs6
 have HK6:=hid hk6
 clear hr1 hr2 hs6 hk6
 generalize wc=w6 at *
 obtain ⟨oc,oe,oo,ob,ol⟩:=o
 simp only at HS6 HK6 ⊢
 cases oc with
 | succ c =>
  unfold ev
  go_wp2_with fail
  go_ret2
  exact ⟨.slice none 0 0,rfl,by unfold AnsV; rw [if_neg (fun h=>by cases h.1)],HS6.out,HK6.out,fun a c hv=>by cases hv⟩
 | zero =>
  unfold ev
  by_cases hgk:gk=0
  ·subst hgk
   go_wp2_with fail
   go_ret2
   exact ⟨.slice none 0 0,rfl,by unfold AnsV; rw [if_neg (fun h=>h.2 rfl)],HS6.out,HK6.out,fun a c hv=>by cases hv⟩
  ·have hgi:¬ (gk:Int)=0:=by omega
   obtain ⟨x0,x1,x2⟩:=HS6.out.sr.cells
   obtain ⟨c0,c1,c2,c3,c4,c5,c6,c7,c8⟩:=nine HR6.out
   have s0:w6.cell? ⟨g2,0,none⟩=some (.int .i64 (th:Int)):=by rw [cell_of_row _ _ _ _ _ _ HT6.out]; rfl
   have s1:w6.cell? ⟨g2,1,none⟩=some (.int .i64 (tp:Int)):=by rw [cell_of_row _ _ _ _ _ _ HT6.out]; rfl
   have s2:w6.cell? ⟨g2,2,none⟩=some (.int .i64 (ta:Int)):=by rw [cell_of_row _ _ _ _ _ _ HT6.out]; rfl
   go_wp2_with fail
   go_region
   all_goals go_wp2_with fail
   all_goals go_ret2
   all_goals refine ⟨_,rfl,?_,HS6.out.later ((Below.refl _ _).alloc (Nat.le_refl _) _).drew,HK6.out.trans (Kept.of_below ((Below.refl _ _).alloc (Nat.le_refl _) _).drew),fun a c hv=>by cases hv; exact HK6.out.size⟩
   all_goals unfold AnsV
   all_goals rw [if_pos ⟨rfl,hgk⟩]
   all_goals exact ⟨_,_,rfl,heap_alloc_new w6 _⟩
theorem shear_in (A:Nat→Addr) (w0 w:World) (s j mb p q n:Nat) (id f d k a ph pr pa:Nat) (y:Bool) (R:Nat→Bool) (E:Nat→Nat×St) (over:Bool) (B:ByteArray) (l:Int) (g:HOut) (o:POut)
  (h:SP w0 w s j mb p q id R n E over B l) (hE:HeldE w0 A) (hn:∀ d,d<6→(E d).1<4294967296) (hf:frOk f id d k a ph pr pa) (hg:hearL (E d).2 (R d) k a ph=g) (ho:pOut E over B l d g.st.ph g.st.pr g.st.at_=o) :
  Calls Tryd.prog 14 #[.pointer (some ⟨s,0,none⟩),frV f id d k a y ph pr pa] w fun e w'=>∃ v,e=.returned (.tuple #[v,ev A o.c])∧AnsV w' v o.c id f d a g∧SP w0 w' s j mb p q id R n o.e o.over o.b o.l∧Kept (In3 j p q) w w':=by
 refine (shear_inB A w0 w s j mb p q n id f d k a ph pr pa y R E over B l g o h hE hn hf hg ho).mono ?_
 rintro e w' ⟨v,h1,h2,h3,h4,-⟩
 exact ⟨v,h1,h2,h3,h4⟩
theorem votes_hear (A:Nat→Addr) (w0 w:World) (s j mb p q n:Nat) (h:SP w0 w s j mb p q 1 (fun _=>false) n (dealL (zeroB 512).data.toList) false (zeroB 512) (-1)) (hE:HeldE w0 A) :
  Calls Tryd.prog 14 #[.pointer (some ⟨s,0,none⟩),frV 0 1 0 1 0 false 0 0 0] w fun e w'=>∃ gb cap,e=.returned (.tuple #[.slice (some ⟨gb,0,none⟩) 1 cap,.nilIface])∧w'.cell? ⟨gb,3,none⟩=some (.int .i64 2)∧w'.cell? ⟨gb,5,none⟩=some (.bool true)∧Below w0.heap.size w0 w':=by
 have hz:=deal_zero 512 0 (by omega)
 have hB:216≤(zeroB 512).size:=by rw [zeroB_size]; omega
 have hn:(dealL (zeroB 512).data.toList 0).1+1<4294967295:=by rw [hz]; decide
 have hf:=put_free (B:=zeroB 512) (d:=0) (s:=⟨1,0,0⟩) hB (by decide) hn
 have hg:hearL (dealL (zeroB 512).data.toList 0).2 ((fun _=>false) 0) 1 0 0=⟨⟨1,0,0⟩,2,true⟩:=by rw [hz]; rfl
 obtain ⟨o,ho⟩:∃ o,pOut (dealL (zeroB 512).data.toList) false (zeroB 512) (-1) (0:Nat) (1:Nat) (0:Nat) (0:Nat)=o:=⟨_,rfl⟩
 have hc:o.c=0:=by
  rw [← ho]
  unfold pOut
  rw [if_neg (by decide),if_pos ⟨by omega,by decide⟩]
  exact hf.1
 refine (shear_in A w0 w s j mb p q n 1 0 0 1 0 0 0 0 false (fun _=>false) _ false _ (-1) _ o h hE (fun d _=>deal_lt _ d) ⟨by omega,by omega,by omega,by omega,by omega,by omega,by omega,by omega⟩ hg ho).mono ?_
 rintro e w' ⟨v,rfl,hv,hs,hk⟩
 rw [hc] at hv ⊢
 unfold AnsV at hv
 rw [if_pos ⟨rfl,by decide⟩] at hv
 obtain ⟨gb,cap,rfl,hr⟩:=hv
 refine ⟨gb,cap,rfl,?_,?_,hs.jp.bel⟩
 ·rw [cell_of_row _ _ _ _ _ _ hr]; rfl
 ·rw [cell_of_row _ _ _ _ _ _ hr]; rfl
theorem votes_any (A:Nat→Addr) (w:World) (hE:HeldE w A) :
  Calls Tryd.prog 8 #[] w fun e w'=>e=.returned (.bool true)∧Below w.heap.size w w':=by
 have HE:=hid hE
 clear hE
 go_enter Tryd.func8,Tryd.ntmps8
 go_wp2_with fail
 refine (pnew_ok 512 _ (by omega)).mono ?_
 rintro e w1 ⟨rfl,hP1,hb1,hs1⟩
 have HP1:=hid hP1
 have HB1:=hid hb1
 have HE1:=hid (HE.out.later hb1)
 clear hP1 hb1
 go_wp2_with fail
 refine (snew_ok A 1 _ _ _ (-1) _ HP1.out HE1.out (by rw [zeroB_size]; omega) (by rw [zeroB_size]; omega) (by omega) (by omega) (by omega)).mono ?_
 rintro e w2 ⟨s,j,mb,rfl,hJ,hS,hb2,hj0,hjm,hms⟩
 have HS:=hid (sp_new HB1.out HP1.out (by omega) (Nat.le_refl _) hJ hS hb2 hj0 hjm hms (by omega) (by omega) (by rw [zeroB_size]; omega) (by rw [zeroB_size]; omega))
 clear hJ hS hb2 hj0 hjm hms
 go_wp2_with fail
 refine (votes_hear A w _ s j mb _ _ 0 HS.out HE.out).mono ?_
 rintro e w3 ⟨gb,cap,rfl,hc3,hc5,hb3⟩
 have HB3:=hid hb3
 clear hb3
 go_wp2_with fail
 go_ret
 exact ⟨rfl,HB3.out⟩
end Go.Proofs.YtkopfpaldmapdaaDoor
