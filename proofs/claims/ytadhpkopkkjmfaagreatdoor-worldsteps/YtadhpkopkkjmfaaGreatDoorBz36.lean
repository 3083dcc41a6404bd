/-
  On the way to WStepsProof: RV S2 S4 SH.
-/
import Derived.Test.YtadhpkopkkjmfaaGreatDoorBz33
import Derived.Test.YtadhpkopkkjmfaaGreatDoorBz34
import Derived.Test.YtadhpkopkkjmfaaGreatDoorBz15
set_option maxHeartbeats 8000000
set_option maxRecDepth 100000
namespace Go.Proofs.YtadhpkopkkjmfaaGreatDoor
open Go.RowKit
end Go.Proofs.YtadhpkopkkjmfaaGreatDoor
namespace Go.Proofs.YtadhpkopkkjmfaaGreatDoor
open Go.RowKit
section
variable {w0 w w':World} {j p q m gn gs r:Nat} {E:Nat→Nat×St} {over dead:Bool} {B:ByteArray} {l:Int} {A:Nat→Addr}
theorem rput_any (dl ph pr a:Int) (o:POut) (ho:pOut E over B l dl ph pr a=o) (h:RK w m gn gs r E over B l) (hn:∀ d,d<6→(E d).1<4294967296) :
  Calls Tryz.prog 182 #[.pointer (some ⟨m,0,none⟩),.int .i64 dl,.agg #[.int .i64 ph,.int .i64 pr,.int .i64 a]] w fun e w'=>e=.returned (.int .i64 (o.c:Int))∧RK w' m gn gs r o.e o.over o.b o.l∧Kept (In4 m gn gs r) w w':=by
 subst ho
 unfold pOut
 cases over with
 | true =>
  rw [if_pos rfl]
  refine (rput_over dl ph pr a h).mono ?_
  rintro e w' ⟨rfl,hb⟩
  exact ⟨rfl,h.later hb,Kept.of_below hb⟩
 | false =>
  rw [if_neg (by decide)]
  by_cases hb:(0≤dl∧dl<6)∧fitsB ph pr a=true
  ·rw [if_pos hb]
   obtain ⟨d,h1,h2,h3,rfl,rfl,rfl,rfl⟩:=in_nat hb
   simp only [Int.toNat_natCast]
   exact rput_in d h1 h2 h3 h (by omega) hb.2 (hn d (by omega))
  ·rw [if_neg hb]
   refine (rput_bound dl ph pr a h hb).mono ?_
   rintro e w' ⟨rfl,hb'⟩
   exact ⟨rfl,h.later hb',Kept.of_below hb'⟩
theorem RK.far {S:Nat→Prop} (h:RK w m gn gs r E over B l) (k:Kept S w w') (hd:∀ x,S x→¬ In4 m gn gs r x):RK w' m gn gs r E over B l :=
 h.kept k (fun e=>hd _ e (.inl rfl)) (fun e=>hd _ e (.inr (.inl rfl))) (fun e=>hd _ e (.inr (.inr (.inl rfl)))) (fun e=>hd _ e (.inr (.inr (.inr rfl))))
end
structure RSt (w:World) (t m gb:Nat) (id:Int) (R:Nat→Bool):Prop where
 row:w.heap[t]? = some (.cells #[.int .i64 id,.pointer (some ⟨m,0,none⟩),.slice (some ⟨gb,0,none⟩) 6 6] 187 (0,0))
 refs:w.heap[gb]? = some (.cells #[.bool (R 0),.bool (R 1),.bool (R 2),.bool (R 3),.bool (R 4),.bool (R 5)] 4 (0,0))
section
variable {w w':World} {t m gb:Nat} {id:Int} {R:Nat→Bool}
theorem RSt.kept {S:Nat→Prop} (h:RSt w t m gb id R) (k:Kept S w w') (h1:¬ S t) (h2:¬ S gb):RSt w' t m gb id R:=⟨k.row h.row h1,k.row h.refs h2⟩
theorem RSt.later (h:RSt w t m gb id R) (hb:Below w.heap.size w w'):RSt w' t m gb id R:=h.kept (S:=fun _=>False) (Kept.of_below hb) (fun x=>x) (fun x=>x)
theorem RSt.cells (h:RSt w t m gb id R):w.cell? ⟨t,0,none⟩=some (.int .i64 id)∧w.cell? ⟨t,1,none⟩=some (.pointer (some ⟨m,0,none⟩))∧w.cell? ⟨t,2,none⟩=some (.slice (some ⟨gb,0,none⟩) 6 6):=by
 refine ⟨?_,?_,?_⟩ <;> rw [cell_of_row _ _ _ _ _ _ h.row] <;> rfl
theorem RSt.ref (h:RSt w t m gb id R) {d:Nat} (hd:d<6):w.cell? ⟨gb,d,none⟩=some (.bool (R d)):=by
 rw [cell_of_row _ _ _ _ _ _ h.refs]
 rcases six hd with rfl|rfl|rfl|rfl|rfl|rfl <;> rfl
end
theorem kept_fresh {S:Nat→Prop} {w w1 w2:World} {g:Nat} (h:Kept S w w1) (k:Kept (In1 g) w1 w2) (hg:w.heap.size≤g):Kept S w w2 :=
 ⟨k.os.trans h.os,k.tape.trans h.tape,k.output.trans h.output,Nat.le_trans h.size k.size,fun i hi hs=>(k.block i (Nat.lt_of_lt_of_le hi h.size) (fun e=>by unfold In1 at e; omega)).trans (h.block i hi hs)⟩
theorem kept_cell {S:Nat→Prop} {w w':World} {a:Addr} {v:Value} (h:Kept S w w') (hc:w.cell? a=some v) (hs:¬ S a.block):w'.cell? a=some v:=by
 rw [World.cell?_of_block (w:=w) (h.block a.block (cell_lt hc) hs)]; exact hc
structure HM (w wx:World) (b g1:Nat) (f t d k a:Int) (y:Bool) (ph pr pa:Int) (s:St):Prop where
 bel:Below w.heap.size w wx
 fr:wx.heap[b]? = some (.cells #[.int .i64 f,.int .i64 t,.int .i64 d,.int .i64 k,.int .i64 a,.bool y,.int .i64 ph,.int .i64 pr,.int .i64 pa] 104 (0,0))
 st:wx.heap[g1]? = some (.cells #[.int .i64 (s.ph:Int),.int .i64 (s.pr:Int),.int .i64 (s.at_:Int)] 43 (0,0))
 lb:w.heap.size≤b
 l1:b<g1
theorem HM.later {w wx wy:World} {b g1:Nat} {f t d k a:Int} {y:Bool} {ph pr pa:Int} {s:St} (h:HM w wx b g1 f t d k a y ph pr pa s) (hb:Below wx.heap.size wx wy):HM w wy b g1 f t d k a y ph pr pa s :=
 ⟨h.bel.trans (hb.mono h.bel.size),(hb.block _ (row_ltJ h.fr)).trans h.fr,(hb.block _ (row_ltJ h.st)).trans h.st,h.lb,h.l1⟩
structure HX (w wx:World) (b g1 g2:Nat) (f t d k a:Int) (y:Bool) (ph pr pa:Int) (s:St) (kk:Int) (yy:Bool):Prop where
 hm:HM w wx b g1 f t d k a y ph pr pa s
 out:wx.heap[g2]? = some (.cells #[.int .i64 t,.int .i64 f,.int .i64 d,.int .i64 kk,.int .i64 a,.bool yy,.int .i64 0,.int .i64 0,.int .i64 0] 104 (0,0))
 l2:g1<g2
section
variable {w wx:World} {b g1 g2:Nat} {f t d k a:Int} {y:Bool} {ph pr pa:Int} {s:St} {kk:Int} {yy:Bool}
theorem HX.drew (h:HX w wx b g1 g2 f t d k a y ph pr pa s kk yy):HX w wx.drew b g1 g2 f t d k a y ph pr pa s kk yy:=⟨⟨h.hm.bel.drew,h.hm.fr,h.hm.st,h.hm.lb,h.hm.l1⟩,h.out,h.l2⟩
theorem HX.setK (h:HX w wx b g1 g2 f t d k a y ph pr pa s kk yy) (x:Int):HX w (wx.setCell ⟨g2,3,none⟩ (.int .i64 x)) b g1 g2 f t d k a y ph pr pa s x yy:=by
 have hb:=h.hm.lb
 have h1:=h.hm.l1
 have h2:=h.l2
 refine ⟨⟨h.hm.bel.setCell (by show _≤g2; omega) _,(Below.heap_setCell _ _ _ _ (by show b≠g2; omega)).trans h.hm.fr,(Below.heap_setCell _ _ _ _ (by show g1≠g2; omega)).trans h.hm.st,hb,h1⟩,?_,h2⟩
 have:=heap_setCell_same wx g2 3 _ _ (.int .i64 x) h.out
 simpa using this
theorem HX.setY (h:HX w wx b g1 g2 f t d k a y ph pr pa s kk yy) (x:Bool):HX w (wx.setCell ⟨g2,5,none⟩ (.bool x)) b g1 g2 f t d k a y ph pr pa s kk x:=by
 have hb:=h.hm.lb
 have h1:=h.hm.l1
 have h2:=h.l2
 refine ⟨⟨h.hm.bel.setCell (by show _≤g2; omega) _,(Below.heap_setCell _ _ _ _ (by show b≠g2; omega)).trans h.hm.fr,(Below.heap_setCell _ _ _ _ (by show g1≠g2; omega)).trans h.hm.st,hb,h1⟩,?_,h2⟩
 have:=heap_setCell_same wx g2 5 _ _ (.bool x) h.out
 simpa using this
theorem HX.set0 (h:HX w wx b g1 g2 f t d k a y ph pr pa s kk yy) (x:Nat) (z:Int) (hz:z=x):HX w (wx.setCell ⟨g1,0,none⟩ (.int .i64 z)) b g1 g2 f t d k a y ph pr pa ⟨x,s.pr,s.at_⟩ kk yy:=by
 subst hz
 have hb:=h.hm.lb
 have h1:=h.hm.l1
 have h2:=h.l2
 refine ⟨⟨h.hm.bel.setCell (by show _≤g1; omega) _,(Below.heap_setCell _ _ _ _ (by show b≠g1; omega)).trans h.hm.fr,?_,hb,h1⟩,(Below.heap_setCell _ _ _ _ (by show g2≠g1; omega)).trans h.out,h2⟩
 have:=heap_setCell_same wx g1 0 _ _ (.int .i64 (x:Int)) h.hm.st
 simpa using this
theorem HX.set1 (h:HX w wx b g1 g2 f t d k a y ph pr pa s kk yy) (x:Nat):HX w (wx.setCell ⟨g1,1,none⟩ (.int .i64 (x:Int))) b g1 g2 f t d k a y ph pr pa ⟨s.ph,x,s.at_⟩ kk yy:=by
 have hb:=h.hm.lb
 have h1:=h.hm.l1
 have h2:=h.l2
 refine ⟨⟨h.hm.bel.setCell (by show _≤g1; omega) _,(Below.heap_setCell _ _ _ _ (by show b≠g1; omega)).trans h.hm.fr,?_,hb,h1⟩,(Below.heap_setCell _ _ _ _ (by show g2≠g1; omega)).trans h.out,h2⟩
 have:=heap_setCell_same wx g1 1 _ _ (.int .i64 (x:Int)) h.hm.st
 simpa using this
theorem HX.set2 (h:HX w wx b g1 g2 f t d k a y ph pr pa s kk yy) (x:Nat):HX w (wx.setCell ⟨g1,2,none⟩ (.int .i64 (x:Int))) b g1 g2 f t d k a y ph pr pa ⟨s.ph,s.pr,x⟩ kk yy:=by
 have hb:=h.hm.lb
 have h1:=h.hm.l1
 have h2:=h.l2
 refine ⟨⟨h.hm.bel.setCell (by show _≤g1; omega) _,(Below.heap_setCell _ _ _ _ (by show b≠g1; omega)).trans h.hm.fr,?_,hb,h1⟩,(Below.heap_setCell _ _ _ _ (by show g2≠g1; omega)).trans h.out,h2⟩
 have:=heap_setCell_same wx g1 2 _ _ (.int .i64 (x:Int)) h.hm.st
 simpa using this
end
theorem rhear_fr (t m gb gn gs r:Nat) (id f d k a ph pr pa:Nat) (y:Bool) (R:Nat→Bool) (E:Nat→Nat×St) (over:Bool) (B:ByteArray) (l:Int) (w:World) (g:HOut) (o:POut)
  (h:RSt w t m gb id R) (hk:RK w m gn gs r E over B l) (hn:∀ d,d<6→(E d).1<4294967296) (hf:frOk f id d k a ph pr pa) (hg:hearL (E d).2 (R d) k a ph=g) (ho:pOut E over B l d g.st.ph g.st.pr g.st.at_=o) (hap:¬ In4 m gn gs r t) :
  Calls Tryz.prog 158 #[.pointer (some ⟨t,0,none⟩),frV f id d k a y ph pr pa] w fun e w'=>∃ v,e=.returned (.tuple #[v,.int .i64 (o.c:Int)])∧AnsV w' v o.c id f d a g∧RK w' m gn gs r o.e o.over o.b o.l∧Kept (In4 m gn gs r) w w'∧∀ a cp,v=.slice (some a) 1 cp→w.heap.size≤a.block:=by
 obtain ⟨W,HW⟩:∃ W,Hid (w.alloc (.cells #[.int .i64 f,.int .i64 id,.int .i64 d,.int .i64 k,.int .i64 a,.bool y,.int .i64 ph,.int .i64 pr,.int .i64 pa] 104)=W):=⟨_,rfl⟩
 have HB:Hid (Below w.heap.size w W):=by rw [← HW.out]; exact (Below.refl _ _).alloc (Nat.le_refl _) _
 have HR:Hid (W.heap[w.heap.size]? = some (.cells #[.int .i64 f,.int .i64 id,.int .i64 d,.int .i64 k,.int .i64 a,.bool y,.int .i64 ph,.int .i64 pr,.int .i64 pa] 104 (0,0))):=by rw [← HW.out]; exact heap_alloc_new w _
 obtain ⟨c0,c1,c2,c3,c4,c5,c6,c7,c8⟩:=nine HR.out
 have hW:=HW.out
 have HF:=hid hf
 have HS:=hid h
 have HK:=hid hk
 have HN:=hid hn
 have hd:d<6:=by have:=hf.2.2.1; omega
 obtain ⟨⟨sh,sp,sa⟩,HE⟩:∃ x,Hid ((E d).2=x):=⟨_,rfl⟩
 rw [HE.out] at hg
 have HG:=hid hg
 have HO:=hid ho
 clear h hk hf hn hg ho
 go_enter Tryz.func158,Tryz.ntmps158
 go_wp2_with (go_at_call 181; (with_reducible refine (rferr_ok f id d k a y ph pr pa _ HF.out).mono ?_); rintro e w1 ⟨rfl,hb1⟩)
 obtain ⟨x0,x1,x2⟩:=(HS.out.later (HB.out.trans (hb1.mono HB.out.size))).cells
 have HR1:=hid ((hb1.block _ (row_ltJ HR.out)).trans HR.out)
 obtain ⟨c0,c1,c2,c3,c4,c5,c6,c7,c8⟩:=nine HR1.out
 have HB1:=hid (HB.out.trans (hb1.mono HB.out.size))
 have HK1:=hid (HK.out.later HB1.out)
 clear hb1
 obtain ⟨cn,cs,m0,m1,m2,m3,-⟩:=HK1.out.cells
 obtain ⟨t0,t1,t2,-⟩:=HK1.out.st hd
 rw [HE.out] at t0 t1 t2
 simp only at t0 t1 t2
 go_upto_region 7 with fail
 go_cut [22] from 11 (fun s22 wx=>s22=.bool false∧Below w1.heap.size w1 wx)
 case first =>
  go_region
  all_goals go_wp2_with fail
  all_goals go_meet
  all_goals exact ⟨rfl,(Below.refl _ _).drew⟩
 obtain ⟨rfl,hbc⟩:=hcut
 have HBc:=hid hbc
 obtain ⟨x0,x1,x2⟩:=(HS.out.later (HB1.out.trans (hbc.mono HB1.out.size))).cells
 have HRc:=hid ((hbc.block _ (row_ltJ HR1.out)).trans HR1.out)
 obtain ⟨c0,c1,c2,c3,c4,c5,c6,c7,c8⟩:=nine HRc.out
 have HBd:=hid (HB1.out.trans (hbc.mono HB1.out.size))
 have HKc:=hid (HK.out.later HBd.out)
 clear hbc m0 m1 m2 m3 t0 t1 t2
 obtain ⟨cn,cs,m0,m1,m2,m3,-⟩:=HKc.out.cells
 obtain ⟨t0,t1,t2,-⟩:=HKc.out.st hd
 rw [HE.out] at t0 t1 t2
 simp only at t0 t1 t2
 have hbs:=row_ltJ HRc.out
 have hts:=cell_lt x0
 have hms:=cell_lt m0
 have hgs:=cell_lt t0
 have hdi:(d:Int)<6:=by omega
 simp only at hts hms hgs
 go_upto_region 13 with fail
 go_cut [7] from 11 (fun s7 wx=>∃ g1,s7=.pointer (some ⟨g1,0,none⟩)∧HM w wx w.heap.size g1 f id d k a y ph pr pa ⟨sh,sp,sa⟩)
 case first =>
  go_region
  all_goals go_wp2_with fail
  all_goals go_meet
  all_goals exact ⟨_,rfl,⟨(HBd.out.alloc HBd.out.size _).drew,(Below.heap_alloc wc _ _ hbs).trans HRc.out,heap_alloc_new wc _,Nat.le_refl _,hbs⟩⟩
 obtain ⟨g1,rfl,hm⟩:=hcut
 clear HBc HRc HBd HKc HR1 HB1 HK1 x0 x1 x2 c0 c1 c2 c3 c4 c5 c6 c7 c8 m0 m1 m2 m3 t0 t1 t2 hbs hts hms hgs
 rename_i wc
 have HM1:=hid hm
 clear hm
 generalize wc=w2 at *
 obtain ⟨x0,x1,x2⟩:=(HS.out.later HM1.out.bel).cells
 obtain ⟨c0,c1,c2,c3,c4,c5,c6,c7,c8⟩:=nine HM1.out.fr
 have hts:=cell_lt x0
 have hbs:=row_ltJ HM1.out.fr
 have hgs:=row_ltJ HM1.out.st
 simp only at hts
 go_upto_region 13 with fail
 go_cut [8] from 11 (fun s8 wx=>∃ g2,s8=.pointer (some ⟨g2,0,none⟩)∧HX w wx w.heap.size g1 g2 f id d k a y ph pr pa ⟨sh,sp,sa⟩ 0 false)
 case first =>
  go_region
  all_goals go_wp2_with fail
  all_goals go_meet
  all_goals exact ⟨_,rfl,⟨HM1.out.later ((Below.refl _ _).alloc (Nat.le_refl _) _).drew,heap_alloc_new w2 _,hgs⟩⟩
 obtain ⟨g2,rfl,hx⟩:=hcut
 clear HM1 x0 x1 x2 c0 c1 c2 c3 c4 c5 c6 c7 c8 hts hbs hgs
 rename_i wc
 have HX1:=hid hx
 clear hx
 generalize wc=w3 at *
 obtain ⟨c0,c1,c2,c3,c4,c5,c6,c7,c8⟩:=nine HX1.out.hm.fr
 have s0:w3.cell? ⟨g1,0,none⟩=some (.int .i64 (sh:Int)):=by rw [cell_of_row _ _ _ _ _ _ HX1.out.hm.st]; rfl
 obtain ⟨fb,HFb⟩:∃ b,Hid (finB sh=b):=⟨_,rfl⟩
 go_upto_region 4 with fail
 refine (rfinal_is sh fb _ HFb.out).mono ?_
 rintro e wx ⟨rfl,rfl⟩
 dsimp only
 iterate 8 go_step
 have s1:wx.cell? ⟨g1,1,none⟩=some (.int .i64 (sp:Int)):=by rw [cell_of_row _ _ _ _ _ _ HX1.out.hm.st]; rfl
 have s2:wx.cell? ⟨g1,2,none⟩=some (.int .i64 (sa:Int)):=by rw [cell_of_row _ _ _ _ _ _ HX1.out.hm.st]; rfl
 obtain ⟨o0,o1,o2,o3,o4,o5,o6,o7,o8⟩:=nine HX1.out.out
 have z1:=frozen_of_row wx g1 0 _ _ HX1.out.hm.st
 have z2:=frozen_of_row wx g1 1 _ _ HX1.out.hm.st
 have z3:=frozen_of_row wx g1 2 _ _ HX1.out.hm.st
 have y3:=frozen_of_row wx g2 3 _ _ HX1.out.out
 have y5:=frozen_of_row wx g2 5 _ _ HX1.out.out
 have n12:g1≠g2:=by have:=HX1.out.l2; omega
 have n01:w.heap.size≠g1:=by have:=HX1.out.hm.l1; omega
 have n02:w.heap.size≠g2:=by have:=HX1.out.hm.l1; have:=HX1.out.l2; omega
 obtain ⟨x0,x1,x2⟩:=(HS.out.later HX1.out.hm.bel).cells
 have hrd:=(HS.out.later HX1.out.hm.bel).ref hd
 have htw:t<w.heap.size:=row_ltJ HS.out.row
 have hgw:gb<w.heap.size:=row_ltJ HS.out.refs
 have nt1:t≠g1:=by have:=HX1.out.hm.l1; omega
 have nt2:t≠g2:=by have:=HX1.out.hm.l1; have:=HX1.out.l2; omega
 have ng1:gb≠g1:=by have:=HX1.out.hm.l1; omega
 have ng2:gb≠g2:=by have:=HX1.out.hm.l1; have:=HX1.out.l2; omega
 obtain ⟨rd,HRd⟩:∃ b,Hid (R d=b):=⟨_,rfl⟩
 rw [HRd.out] at hrd HG
 have hk17:1≤k∧k≤7:=by have:=HF.out.2.2.2.1; omega
 go_cut [] from 11 (fun wy=>HX w wy w.heap.size g1 g2 f id d k a y ph pr pa g.st g.k g.yes)
 case first =>
  clear htw hgw
  rcases (by omega:k=1 ∨ k=3 ∨ k=5 ∨ k=7 ∨ k=2 ∨ k=4 ∨ k=6) with rfl|rfl|rfl|rfl|rfl|rfl|rfl
  ·by_cases h0:sh=0
   ·subst h0
    cases rd with
    | true =>
     have HGe:Hid (g=⟨⟨3,sp,sa⟩,2,false⟩):=by unfold Hid; rw [← HG.out]; simp [hearL,askP]
     go_wp2_with fail
     go_region
     all_goals go_wp2_with fail
     all_goals go_meet
     all_goals (rw [HGe.out]; exact (((HX1.out.setK 2).drew).set0 3 3 rfl).setY false)
    | false =>
     have HGe:Hid (g=⟨⟨1,sp,sa⟩,2,true⟩):=by unfold Hid; rw [← HG.out]; simp [hearL,askP]
     go_wp2_with fail
     go_region
     all_goals go_wp2_with fail
     all_goals go_meet
     all_goals (rw [HGe.out]; exact (((HX1.out.setK 2).drew).set0 1 1 rfl).setY true)
   ·have hi0:¬ (sh:Int)=0:=by omega
    by_cases h3:sh=3
    ·subst h3
     have HGe:Hid (g=⟨⟨3,sp,sa⟩,2,false⟩):=by unfold Hid; rw [← HG.out]; simp [hearL,askP]
     go_wp2_with fail
     go_region
     all_goals go_wp2_with fail
     all_goals go_meet
     all_goals (rw [HGe.out]; exact ((HX1.out.setK 2).drew).setY false)
    ·have hi3:¬ (sh:Int)=3:=by omega
     have e0:((sh:Int) == 0)=false:=beq_eq_false_iff_ne.2 hi0
     have e3:((sh:Int) != 3)=true:=bne_iff_ne.2 hi3
     have HGe:Hid (g=⟨⟨sh,sp,sa⟩,2,true⟩):=by unfold Hid; rw [← HG.out]; simp [hearL,askP,h0,h3]
     go_wp2_with fail
     go_region
     all_goals go_wp2_with fail
     all_goals go_meet
     all_goals (rw [HGe.out]; first|exact ((HX1.out.setK 2).drew).setY true|exact ((HX1.out.setK 2).setY true).drew)
  ·by_cases hpa:sp<a
   ·have hpi:(sp:Int)<(a:Int):=by omega
    have HGe:Hid (g=⟨⟨sh,a,sa⟩,4,true⟩):=by unfold Hid; rw [← HG.out]; simp [hearL,hpa]
    go_wp2_with fail
    go_meet
    rw [HGe.out]; exact ((HX1.out.setK 4).set1 a).setY true
   ·have hpi:¬ (sp:Int)<(a:Int):=by omega
    have HGe:Hid (g=⟨⟨sh,sp,sa⟩,4,false⟩):=by unfold Hid; rw [← HG.out]; simp [hearL,hpa]
    go_wp2_with fail
    go_meet
    rw [HGe.out]; exact HX1.out.setK 4
  ·by_cases hph:ph=4 ∨ ph=5
   ·by_cases hpa:sp≤a
    ·have hpi:(sp:Int)≤(a:Int):=by omega
     cases fb with
     | false =>
      have HGe:Hid (g=⟨⟨ph,a,a⟩,6,true⟩):=by unfold Hid; rw [← HG.out]; simp [hearL,hpa,hph,HFb.out]
      rcases hph with rfl|rfl
      ·go_wp2_with fail
       go_meet
       rw [HGe.out]; exact ((((HX1.out.setK 6).set0 4 4 rfl).set1 a).set2 a).setY true
      ·go_wp2_with fail
       go_meet
       rw [HGe.out]; exact ((((HX1.out.setK 6).set0 5 5 rfl).set1 a).set2 a).setY true
     | true =>
      have HGe:Hid (g=⟨⟨sh,sp,sa⟩,6,false⟩):=by unfold Hid; rw [← HG.out]; simp [hearL,hph,HFb.out]
      rcases hph with rfl|rfl
      ·go_wp2_with fail
       go_meet
       rw [HGe.out]; exact HX1.out.setK 6
      ·go_wp2_with fail
       go_meet
       rw [HGe.out]; exact HX1.out.setK 6
    ·have hpi:¬ (sp:Int)≤(a:Int):=by omega
     have HGe:Hid (g=⟨⟨sh,sp,sa⟩,6,false⟩):=by unfold Hid; rw [← HG.out]; simp [hearL,hpa,hph]
     rcases hph with rfl|rfl
     ·go_wp2_with fail
      go_meet
      rw [HGe.out]; exact HX1.out.setK 6
     ·go_wp2_with fail
      go_meet
      rw [HGe.out]; exact HX1.out.setK 6
   ·have hp4:¬ (ph:Int)=4:=by omega
    have hp5:¬ (ph:Int)=5:=by omega
    have e4:((ph:Int) != 4)=true:=bne_iff_ne.2 hp4
    have e5:((ph:Int) != 5)=true:=bne_iff_ne.2 hp5
    have HGe:Hid (g=⟨⟨sh,sp,sa⟩,0,false⟩):=by unfold Hid; rw [← HG.out]; simp [hearL,hph]
    go_wp2_with fail
    go_meet
    rw [HGe.out]; exact HX1.out
  ·obtain ⟨fc,HFc⟩:∃ b,Hid (finB ph=b):=⟨_,rfl⟩
   cases fc with
   | false =>
    have HGe:Hid (g=⟨⟨sh,sp,sa⟩,0,false⟩):=by unfold Hid; rw [← HG.out]; simp [hearL,HFc.out]
    go_wp2_with (go_at_call 37; (with_reducible refine (rfinal_is ph false _ HFc.out).mono ?_); rintro e wz ⟨rfl,rfl⟩)
    go_meet
    rw [HGe.out]; exact HX1.out
   | true =>
    cases fb with
    | false =>
     have HGe:Hid (g=⟨⟨ph,sp,sa⟩,0,false⟩):=by unfold Hid; rw [← HG.out]; simp [hearL,HFc.out,HFb.out]
     go_wp2_with (go_at_call 37; (with_reducible refine (rfinal_is ph true _ HFc.out).mono ?_); rintro e wz ⟨rfl,rfl⟩)
     go_meet
     rw [HGe.out]; exact HX1.out.set0 ph ph rfl
    | true =>
     have HGe:Hid (g=⟨⟨sh,sp,sa⟩,0,false⟩):=by unfold Hid; rw [← HG.out]; simp [hearL,HFb.out]
     go_wp2_with (go_at_call 37; (with_reducible refine (rfinal_is ph true _ HFc.out).mono ?_); rintro e wz ⟨rfl,rfl⟩)
     go_meet
     rw [HGe.out]; exact HX1.out
  ·have HGe:Hid (g=⟨⟨sh,sp,sa⟩,0,false⟩):=by unfold Hid; rw [← HG.out]; simp [hearL]
   go_wp2_with fail
   go_meet
   rw [HGe.out]; exact HX1.out
  ·have HGe:Hid (g=⟨⟨sh,sp,sa⟩,0,false⟩):=by unfold Hid; rw [← HG.out]; simp [hearL]
   go_wp2_with fail
   go_meet
   rw [HGe.out]; exact HX1.out
  ·have HGe:Hid (g=⟨⟨sh,sp,sa⟩,0,false⟩):=by unfold Hid; rw [← HG.out]; simp [hearL]
   go_wp2_with fail
   go_meet
   rw [HGe.out]; exact HX1.out
 have HX2:=hid hcut
 clear HX1 HFb hcut HG HR hW c0 c1 c2 c3 c4 c5 c6 c7 c8 s0 s1 s2 o0 o1 o2 o3 o4 o5 o6 o7 o8 z1 z2 z3 y3 y5 x0 x1 x2 hrd
 rename_i wc
 generalize wc=w4 at *
 obtain ⟨⟨th,tp,ta⟩,gk,gy⟩:=g
 simp only at HO HX2
 obtain ⟨x0,x1,x2⟩:=(HS.out.later HX2.out.hm.bel).cells
 obtain ⟨c0,c1,c2,c3,c4,c5,c6,c7,c8⟩:=nine HX2.out.hm.fr
 have s0:w4.cell? ⟨g1,0,none⟩=some (.int .i64 (th:Int)):=by rw [cell_of_row _ _ _ _ _ _ HX2.out.hm.st]; rfl
 have s1:w4.cell? ⟨g1,1,none⟩=some (.int .i64 (tp:Int)):=by rw [cell_of_row _ _ _ _ _ _ HX2.out.hm.st]; rfl
 have s2:w4.cell? ⟨g1,2,none⟩=some (.int .i64 (ta:Int)):=by rw [cell_of_row _ _ _ _ _ _ HX2.out.hm.st]; rfl
 have HL:=hid HK.out.lts
 have HK4:=hid (HK.out.later HX2.out.hm.bel)
 have n4:∀ x,w.heap.size≤x→¬ In4 m gn gs r x:=fun x hx e=>by have:=HL.out; unfold In4 at e; omega
 have HN4:=hid n4
 clear n4
 have NG:Hid (¬ In4 m gn gs r g1):=HN4.out _ (Nat.le_of_lt HX2.out.hm.l1)
 have HA:=hid hap
 clear hap
 go_upto_region 9 with fail
 go_cut [6] from 11 (fun s6 wy=>s6=.int .i64 (o.c:Int)∧wy.heap[g1]? = some (.cells #[.int .i64 (th:Int),.int .i64 (tp:Int),.int .i64 (ta:Int)] 43 (0,0)) ∧
  wy.heap[g2]? = some (.cells #[.int .i64 (id:Int),.int .i64 (f:Int),.int .i64 (d:Int),.int .i64 (gk:Int),.int .i64 (a:Int),.bool gy,.int .i64 0,.int .i64 0,.int .i64 0] 104 (0,0))∧RK wy m gn gs r o.e o.over o.b o.l∧Kept (In4 m gn gs r) w wy)
 case first =>
  go_region_held3 (fun W=>W.cell? ⟨t,1,none⟩=some (.pointer (some ⟨m,0,none⟩))∧W.cell? ⟨w.heap.size,2,none⟩=some (.int .i64 (d:Int))∧W.cell? ⟨g1,0,none⟩=some (.int .i64 (th:Int))∧W.cell? ⟨g1,1,none⟩=some (.int .i64 (tp:Int))∧W.cell? ⟨g1,2,none⟩=some (.int .i64 (ta:Int))) (go_keep) (first|(go_at_call 182; (with_reducible refine (rput_any (d:Int) (th:Int) (tp:Int) (ta:Int) o HO.out HK4.out.drew HN.out).mono ?_); rintro e w5 ⟨rfl,hr5,hk5⟩; have q1:=kept_cell hk5 x1 HA.out; have q2:=kept_cell hk5 c2 (HN4.out _ (Nat.le_refl _)); have q3:=kept_cell hk5 s0 NG.out; have q4:=kept_cell hk5 s1 NG.out; have q5:=kept_cell hk5 s2 NG.out; have HR5:=hid hr5; have HK5:=hid hk5; clear hr5 hk5))
  all_goals go_wp2_with fail
  all_goals go_meet
  all_goals exact ⟨rfl,HK5.out.row HX2.out.hm.st NG.out,HK5.out.row HX2.out.out (HN4.out _ (Nat.le_trans (Nat.le_of_lt HX2.out.hm.l1) (Nat.le_of_lt HX2.out.l2))),HR5.out,(Kept.of_below HX2.out.hm.bel).trans ((Kept.of_below (Below.refl _ _).drew).trans HK5.out)⟩
 obtain ⟨rfl,r1,r2,hr,hkk⟩:=hcut
 have N1:Hid (w.heap.size≤g1):=Nat.le_of_lt HX2.out.hm.l1
 have N2:Hid (w.heap.size≤g2):=Nat.le_trans N1.out (Nat.le_of_lt HX2.out.l2)
 have N3:Hid (g1≠g2):=by have:=HX2.out.l2; unfold Hid; omega
 clear HX2 x0 x1 x2 c0 c1 c2 c3 c4 c5 c6 c7 c8 s0 s1 s2 HK4
 have R1:=hid r1
 have R2:=hid r2
 have HR6:=hid hr
 have HK6:=hid hkk
 clear r1 r2 hr hkk
 by_cases hc:o.c=0
 ·have hci:(o.c:Int)=0:=by omega
  rw [hci]
  have k3:wc.cell? ⟨g2,3,none⟩=some (.int .i64 (gk:Int)):=by rw [cell_of_row _ _ _ _ _ _ R2.out]; rfl
  by_cases hg:gk=0
  ·subst hg
   go_wp2_with fail
   go_ret2
   exact ⟨.slice none 0 0,by rw [hci]; rfl,by unfold AnsV; rw [if_neg (fun h=>h.2 rfl)],HR6.out,HK6.out,fun _ _ e=>by cases e⟩
  ·have hgi:¬ (gk:Int)=0:=by omega
   have s0:wc.cell? ⟨g1,0,none⟩=some (.int .i64 (th:Int)):=by rw [cell_of_row _ _ _ _ _ _ R1.out]; rfl
   have s1:wc.cell? ⟨g1,1,none⟩=some (.int .i64 (tp:Int)):=by rw [cell_of_row _ _ _ _ _ _ R1.out]; rfl
   have s2:wc.cell? ⟨g1,2,none⟩=some (.int .i64 (ta:Int)):=by rw [cell_of_row _ _ _ _ _ _ R1.out]; rfl
   clear k3
   obtain ⟨o0,o1,o2,o3,o4,o5,o6,o7,o8⟩:=nine R2.out
   have y6:=frozen_of_row wc g2 6 _ _ R2.out
   have y7:=frozen_of_row wc g2 7 _ _ R2.out
   have y8:=frozen_of_row wc g2 8 _ _ R2.out
   obtain ⟨Y,HY⟩:∃ Y,Hid (((wc.setCell ⟨g2,6,none⟩ (.int .i64 (th:Int))).setCell ⟨g2,7,none⟩ (.int .i64 (tp:Int))).setCell ⟨g2,8,none⟩ (.int .i64 (ta:Int))=Y):=⟨_,rfl⟩
   have KK:Hid (Kept (In1 g2) wc Y):=by rw [← HY.out]; exact (((Kept.refl _ _).set1 6 _).set1 7 _).set1 8 _
   have R3:Hid (Y.heap[g2]? = some (.cells #[.int .i64 (id:Int),.int .i64 (f:Int),.int .i64 (d:Int),.int .i64 (gk:Int),.int .i64 (a:Int),.bool gy,.int .i64 (th:Int),.int .i64 (tp:Int),.int .i64 (ta:Int)] 104 (0,0))):=by
    unfold Hid
    rw [← HY.out]
    have e1:=heap_setCell_same wc g2 6 _ _ (.int .i64 (th:Int)) R2.out
    have e2:=heap_setCell_same _ g2 7 _ _ (.int .i64 (tp:Int)) e1
    have e3:=heap_setCell_same _ g2 8 _ _ (.int .i64 (ta:Int)) e2
    simpa using e3
   have nn:Hid (¬ In4 m gn gs r g2):=HN4.out _ N2.out
   have HR7:Hid (RK Y m gn gs r o.e o.over o.b o.l):=HR6.out.kept KK.out (fun e=>nn.out (.inl e.symm)) (fun e=>nn.out (.inr (.inl e.symm))) (fun e=>nn.out (.inr (.inr (.inl e.symm)))) (fun e=>nn.out (.inr (.inr (.inr e.symm))))
   have HK7:Hid (Kept (In4 m gn gs r) w Y):=kept_fresh HK6.out KK.out N2.out
   obtain ⟨v0,v1,v2,v3,v4,v5,v6,v7,v8⟩:=nine R3.out
   have hY:=HY.out
   go_wp2_with fail
   go_ret2
   refine ⟨_,by rw [hci]; rfl,?_,HR7.out.later ((Below.refl _ _).alloc (Nat.le_refl _) _),HK7.out.trans (kept_alloc _ _ _),fun _ _ e=>by cases e; exact HK7.out.size⟩
   unfold AnsV
   rw [if_pos ⟨hc,hg⟩]
   exact ⟨_,_,rfl,heap_alloc_new Y _⟩
 ·have hci:(0:Int)<(o.c:Int):=by omega
  go_wp2_with fail
  go_ret2
  exact ⟨.slice none 0 0,rfl,by unfold AnsV; rw [if_neg (fun h=>hc h.1)],HR6.out,HK6.out,fun _ _ e=>by cases e⟩
theorem RJ.lts {w:World} {m gn gs r:Nat} {E:Nat→Nat×St} {dead:Bool} (h:RJ w m gn gs r E dead):m<w.heap.size∧gn<w.heap.size∧gs<w.heap.size:=by
 obtain ⟨⟨cn,cs,r1⟩,⟨N,n1,_⟩,⟨T,t1,_⟩,_,_,_⟩:=h
 exact ⟨row_ltJ r1,row_ltJ n1,row_ltJ t1⟩
theorem alloc_two (w:World) (o1 o2:Obj):((w.alloc o1).alloc o2).heap[w.heap.size]? = some o1∧((w.alloc o1).alloc o2).heap[w.heap.size+1]? = some o2∧Below w.heap.size w ((w.alloc o1).alloc o2):=by
 have hs:(w.alloc o1).heap.size=w.heap.size+1:=by simp
 refine ⟨?_,?_,((Below.refl _ _).alloc (Nat.le_refl _) _).alloc (by omega) _⟩
 ·rw [Below.heap_alloc _ _ _ (by omega)]; exact heap_alloc_new w _
 ·rw [← hs]; exact heap_alloc_new _ _
theorem rsnew_rp (r:Nat) (B:ByteArray) (off cuts:Bool) (l2 id:Int) (w:World) (h:RP w r B off l2 cuts) (hB:B.size≤1000) (h6:216≤B.size) :
  Calls Tryz.prog 87 #[.int .i64 id,.pointer (some ⟨r,0,none⟩)] w fun e w'=>∃ t m gn gs gb,e=.returned (.pointer (some ⟨t,0,none⟩))∧RJ w' m gn gs r (dealL B.data.toList) false∧RSt w' t m gb id (fun _=>false)∧Below w.heap.size w w'∧w.heap.size≤m∧w.heap.size≤gn∧w.heap.size≤gs∧w.heap.size≤gb ∧
   t≠m∧t≠gn∧t≠gs∧t≠gb∧w.heap.size≤t∧gb≠m∧gb≠gn∧gb≠gs:=by
 have H:=hid h
 clear h
 have hmb:=mkBo
 obtain ⟨V,HV⟩:∃ V,Hid (w.alloc (.cells #[.bool false,.bool false,.bool false,.bool false,.bool false,.bool false] 4)=V):=⟨_,rfl⟩
 have HBV:Hid (Below w.heap.size w V):=by rw [← HV.out]; exact (Below.refl _ _).alloc (Nat.le_refl _) _
 have HRV:Hid (V.heap[w.heap.size]? = some (.cells #[.bool false,.bool false,.bool false,.bool false,.bool false,.bool false] 4 (0,0))):=by rw [← HV.out]; exact heap_alloc_new w _
 have HVP:=hid (H.out.kept (S:=fun _=>False) (Kept.of_below HBV.out) (fun x=>x))
 have hV:=HV.out
 go_enter Tryz.func87,Tryz.ntmps87
 go_wp2_with fail
 go_region_held3 (fun _=>True) (trivial) (first|(go_at_call 119; (with_reducible refine (ropen_any r B off cuts l2 _ H.out.drew hB h6).mono ?_); rintro e w1 ⟨m,gn,gs,rfl,hrj,hb,b1,b2,b3⟩)|(go_at_call 119; (with_reducible refine (ropen_any r B off cuts l2 _ HVP.out.drew hB h6).mono ?_); rintro e w1 ⟨m,gn,gs,rfl,hrj,hb,b1,b2,b3⟩))
 all_goals go_wp2_with fail
 all_goals go_ret
 ·obtain ⟨q1,q2,q3⟩:=alloc_two w1 (.cells #[.bool false,.bool false,.bool false,.bool false,.bool false,.bool false] 4) (.cells #[.int .i64 id,.pointer (some ⟨m,0,none⟩),.slice (some ⟨w1.heap.size,0,none⟩) 6 6] 187)
  obtain ⟨e1,e2,e3⟩:=hrj.lts
  have hz:w.heap.size≤w1.heap.size:=hb.size
  have b1':w.heap.size≤m:=b1
  have b2':w.heap.size≤gn:=b2
  have b3':w.heap.size≤gs:=b3
  exact ⟨w1.heap.size+1,m,gn,gs,w1.heap.size,rfl,hrj.kept (S:=fun _=>False) (Kept.of_below q3) (fun x=>x) (fun x=>x) (fun x=>x),⟨q2,q1⟩,((Below.refl w.heap.size w).drew.trans hb).trans (q3.mono hz),b1',b2',b3',hz,by omega,by omega,by omega,by omega,by omega,by omega,by omega,by omega⟩
 ·obtain ⟨e1,e2,e3⟩:=hrj.lts
  have hz0:V.heap.size≤w1.heap.size:=hb.size
  have hz1:=row_ltJ HRV.out
  have hz2:=HBV.out.size
  have b1':V.heap.size≤m:=b1
  have b2':V.heap.size≤gn:=b2
  have b3':V.heap.size≤gs:=b3
  have q3:=(Below.refl w1.heap.size w1).alloc (Nat.le_refl _) (.cells #[.int .i64 id,.pointer (some ⟨m,0,none⟩),.slice (some ⟨w.heap.size,0,none⟩) 6 6] 187)
  have q1:w1.heap[w.heap.size]? = some (.cells #[.bool false,.bool false,.bool false,.bool false,.bool false,.bool false] 4 (0,0)):=(hb.block _ hz1).trans HRV.out
  have hbw:Below w.heap.size w w1:=HBV.out.drew.trans (hb.mono hz2)
  exact ⟨w1.heap.size,m,gn,gs,w.heap.size,rfl,hrj.kept (S:=fun _=>False) (Kept.of_below q3) (fun x=>x) (fun x=>x) (fun x=>x),⟨heap_alloc_new w1 _,(q3.block _ (by omega)).trans q1⟩,hbw.trans (q3.mono hbw.size),by omega,by omega,by omega,Nat.le_refl _,by omega,by omega,by omega,by omega,by omega,by omega,by omega,by omega⟩
theorem RSt.refuse {w:World} {t m gb d:Nat} {id:Int} {R:Nat→Bool} (h:RSt w t m gb id R) (hd:d<6) (ht:t≠gb):RSt (w.setCell ⟨gb,d,none⟩ (.bool true)) t m gb id (fun e=>if e=d then true else R e):=by
 refine ⟨by rw [heap_setCell_other _ _ _ _ ht]; exact h.row,?_⟩
 rw [heap_setCell_same w gb d _ _ (.bool true) h.refs]
 rcases six hd with rfl|rfl|rfl|rfl|rfl|rfl <;> rfl
end Go.Proofs.YtadhpkopkkjmfaaGreatDoor
