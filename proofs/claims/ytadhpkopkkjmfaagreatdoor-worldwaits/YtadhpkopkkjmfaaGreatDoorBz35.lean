/-
  On the way to WStepsProof, WCommitsProof, WAgreesProof, WEndsProof, WWaitsProof, JTampersProof, PAgreesProof, PAgainProof: SA VA VB.
-/
import Derived.Test.YtadhpkopkkjmfaaGreatDoorBz29
import Derived.Test.YtadhpkopkkjmfaaGreatDoorBz32
import Derived.DeepKeys4
set_option maxHeartbeats 8000000
set_option maxRecDepth 100000
namespace Go.Proofs.YtadhpkopkkjmfaaGreatDoor
open Go.RowKit
theorem keptCell {S:Nat→Prop} {w w':World} {a:Addr} {v:Value} (h:Kept S w w') (hc:w.cell? a=some v) (hs:¬ S a.block):w'.cell? a=some v:=by
 rw [World.cell?_of_block (w:=w) (h.block a.block (cell_lt hc) hs)]; exact hc
theorem cell3_other {w:World} {g:Nat} {a b c:Value} {ad:Addr} {v:Value} (h:w.cell? ad=some v) (hne:ad.block≠g):(((w.setCell ⟨g,0,none⟩ a).setCell ⟨g,1,none⟩ b).setCell ⟨g,2,none⟩ c).cell? ad=some v:=by
 rw [World.cell?_of_block (w:=w) (by rw [heap_setCell_other _ _ _ _ hne,heap_setCell_other _ _ _ _ hne,heap_setCell_other _ _ _ _ hne])]
 exact h
structure FrSt (w wx:World) (b g:Nat) (f t d k a:Int) (y:Bool) (ph pr pa:Int) (x0 x1 x2:Nat):Prop where
 bel:Below w.heap.size w wx
 fr:wx.heap[b]? = some (.cells #[.int .i64 f,.int .i64 t,.int .i64 d,.int .i64 k,.int .i64 a,.bool y,.int .i64 ph,.int .i64 pr,.int .i64 pa] 104 (0,0))
 st:wx.heap[g]? = some (.cells #[.int .i64 (x0:Int),.int .i64 (x1:Int),.int .i64 (x2:Int)] 43 (0,0))
 lb:w.heap.size≤b
 lg:b<g
section
variable {w wx:World} {b g:Nat} {f t d k a:Int} {y:Bool} {ph pr pa:Int} {x0 x1 x2:Nat}
theorem FrSt.later {wy:World} (h:FrSt w wx b g f t d k a y ph pr pa x0 x1 x2) (hb:Below wx.heap.size wx wy):FrSt w wy b g f t d k a y ph pr pa x0 x1 x2 :=
 ⟨h.bel.trans (hb.mono h.bel.size),(hb.block _ (row_ltJ h.fr)).trans h.fr,(hb.block _ (row_ltJ h.st)).trans h.st,h.lb,h.lg⟩
theorem FrSt.cells (h:FrSt w wx b g f t d k a y ph pr pa x0 x1 x2):wx.cell? ⟨g,0,none⟩=some (.int .i64 (x0:Int))∧wx.cell? ⟨g,1,none⟩=some (.int .i64 (x1:Int))∧wx.cell? ⟨g,2,none⟩=some (.int .i64 (x2:Int)):=by
 refine ⟨?_,?_,?_⟩ <;> rw [cell_of_row _ _ _ _ _ _ h.st] <;> rfl
end
theorem shear_inB (A:Nat→Addr) (w0 w:World) (s j mb p q n:Nat) (id f d k a ph pr pa:Nat) (y:Bool) (R:Nat→Bool) (E:Nat→Nat×St) (over:Bool) (B:ByteArray) (l:Int) (g:HOut) (o:POut)
  (h:SP w0 w s j mb p q id R n E over B l) (hE:HeldE w0 A) (hn:∀ d,d<6→(E d).1<4294967296) (hf:frOk f id d k a ph pr pa) (hg:hearL (E d).2 (R d) k a ph=g) (ho:pOut E over B l d g.st.ph g.st.pr g.st.at_=o) :
  Calls Tryz.prog 146 #[.pointer (some ⟨s,0,none⟩),frV f id d k a y ph pr pa] w fun e w'=>∃ v,e=.returned (.tuple #[v,ev A o.c])∧AnsV w' v o.c id f d a g∧SP w0 w' s j mb p q id R n o.e o.over o.b o.l∧Kept (In3 j p q) w w'∧∀ a c,v=.slice (some a) 1 c→w.heap.size≤a.block:=by
 obtain ⟨W,HW⟩:∃ W,Hid (w.alloc (.cells #[.int .i64 f,.int .i64 id,.int .i64 d,.int .i64 k,.int .i64 a,.bool y,.int .i64 ph,.int .i64 pr,.int .i64 pa] 104)=W):=⟨_,rfl⟩
 have HB:Hid (Below w.heap.size w W):=by rw [← HW.out]; exact (Below.refl _ _).alloc (Nat.le_refl _) _
 have HR:Hid (W.heap[w.heap.size]? = some (.cells #[.int .i64 f,.int .i64 id,.int .i64 d,.int .i64 k,.int .i64 a,.bool y,.int .i64 ph,.int .i64 pr,.int .i64 pa] 104 (0,0))):=by rw [← HW.out]; exact heap_alloc_new w _
 obtain ⟨c0,c1,c2,c3,c4,c5,c6,c7,c8⟩:=nine HR.out
 have hW:=HW.out
 have HF:Hid ((if frOk f id d k a ph pr pa then 0 else 2)=0):=if_pos hf
 have hd:d<6:=by have:=hf.2.2.1; omega
 have hk17:1≤k∧k≤7:=by have:=hf.2.2.2.1; omega
 have HS:=hid h
 have HE:=hid hE
 have HN:=hid hn
 obtain ⟨⟨sh,sp,sa⟩,HEd⟩:∃ x,Hid ((E d).2=x):=⟨_,rfl⟩
 rw [HEd.out] at hg
 have HG:=hid hg
 have HO:=hid ho
 have HEW:=hid ((hE.later h.jp.bel).later HB.out)
 clear h hf hn hg ho hE
 go_enter Tryz.func146,Tryz.ntmps146
 go_wp2_with (go_at_call 174; (with_reducible refine (wcheck_e A f id d k a y ph pr pa 0 _ HEW.out HF.out).mono ?_); rintro e w1 ⟨rfl,hb1⟩; unfold ev; have HB1:=hid (HB.out.trans (hb1.mono HB.out.size)); obtain ⟨x0,x1,x2⟩:=(HS.out.sr.later HB1.out).cells; have HR1:=hid ((hb1.block _ (row_ltJ HR.out)).trans HR.out); obtain ⟨c0,c1,c2,c3,c4,c5,c6,c7,c8⟩:=nine HR1.out; clear hb1)
 go_region
 all_goals go_upto_region 13 with fail
 have HS1:=hid (HS.out.later HB1.out)
 have hbs:=row_ltJ HR1.out
 obtain ⟨V,HV⟩:∃ V,Hid (w1.alloc (.cells #[.int .i64 0,.int .i64 0,.int .i64 0] 43)=V):=⟨_,rfl⟩
 have HBV:Hid (Below w1.heap.size w1 V):=by rw [← HV.out]; exact (Below.refl _ _).alloc (Nat.le_refl _) _
 have HRV:Hid (V.heap[w1.heap.size]? = some (.cells #[.int .i64 0,.int .i64 0,.int .i64 0] 43 (0,0))):=by rw [← HV.out]; exact heap_alloc_new w1 _
 have HFV:Hid (V.heap[w.heap.size]? = some (.cells #[.int .i64 f,.int .i64 id,.int .i64 d,.int .i64 k,.int .i64 a,.bool y,.int .i64 ph,.int .i64 pr,.int .i64 pa] 104 (0,0))):=(HBV.out.block _ hbs).trans HR1.out
 have HSV:=hid (HS1.out.later HBV.out)
 have hV:=HV.out
 have vx:=HSV.out.sr.cells.1
 have vc:V.cell? ⟨w.heap.size,2,none⟩=some (.int .i64 (d:Int)):=(nine HFV.out).2.2.1
 have hsl:=HS1.out.sr.lts.1
 have ns1:s≠w1.heap.size:=Nat.ne_of_lt hsl
 have nf1:w.heap.size≠w1.heap.size:=Nat.ne_of_lt hbs
 go_cut [7,8] from 13 (fun s7 s8 wx=>s8=.nilIface∧∃ g1,s7=.pointer (some ⟨g1,0,none⟩)∧FrSt w wx w.heap.size g1 f id d k a y ph pr pa sh sp sa)
 case first =>
  go_region_held3 (fun W=>W.cell? ⟨s,0,none⟩=some (.pointer (some ⟨j,0,none⟩))∧W.cell? ⟨w.heap.size,2,none⟩=some (.int .i64 (d:Int))) (first|go_keep|exact ⟨cell3_other (by assumption) ns1,cell3_other (by assumption) nf1⟩) (first|(go_at_call 103; (with_reducible refine (get_is j p d E over sh sp sa _ HS1.out.jp.jr.drew.drew hd HEd.out).mono ?_); rintro e w3 ⟨rfl,hb3⟩; have q1:=cell_later hb3 x0; have q2:=cell_later hb3 c2; have HFrS:=hid (And.intro (HB1.out.drew.drew.trans (hb3.mono HB1.out.size)) ((hb3.block _ hbs).trans HR1.out)); have hsz:=hb3.size; have hb3s:=row_ltJ HFrS.out.2; clear hb3)|(go_at_call 103; (with_reducible refine (get_is j p d E over sh sp sa _ HSV.out.jp.jr.drew.drew hd HEd.out).mono ?_); rintro e w3 ⟨rfl,hb3⟩; have q1:=cell_later hb3 vx; have q2:=cell_later hb3 vc; have HR3:=hid ((hb3.block _ (row_ltJ HRV.out)).trans HRV.out); have HFrS:=hid (And.intro ((HB1.out.trans (HBV.out.mono HB1.out.size)).drew.drew.trans (hb3.mono (Nat.le_trans HB1.out.size HBV.out.size))) ((hb3.block _ (row_ltJ HFV.out)).trans HFV.out)); have c30:w3.cell? ⟨w1.heap.size,0,none⟩=some (.int .i64 0):=cell_of_row _ _ 0 _ _ _ HR3.out; have c31:w3.cell? ⟨w1.heap.size,1,none⟩=some (.int .i64 0):=cell_of_row _ _ 1 _ _ _ HR3.out; have c32:w3.cell? ⟨w1.heap.size,2,none⟩=some (.int .i64 0):=cell_of_row _ _ 2 _ _ _ HR3.out; have z30:=frozen_of_row _ _ 0 _ _ HR3.out; have z31:=frozen_of_row _ _ 1 _ _ HR3.out; have z32:=frozen_of_row _ _ 2 _ _ HR3.out; clear hb3))
  all_goals go_wp2_with fail
  all_goals go_meet
  ·exact ⟨rfl,_,rfl,⟨HFrS.out.1.alloc HFrS.out.1.size _,(Below.heap_alloc w3 _ _ hb3s).trans HFrS.out.2,heap_alloc_new w3 _,Nat.le_refl _,hb3s⟩⟩
  ·exact ⟨rfl,_,rfl,⟨((HFrS.out.1.setCell (Nat.le_of_lt hbs) _).setCell (Nat.le_of_lt hbs) _).setCell (Nat.le_of_lt hbs) _,by rw [heap_setCell_other _ _ _ _ nf1,heap_setCell_other _ _ _ _ nf1,heap_setCell_other _ _ _ _ nf1]; exact HFrS.out.2,set3 HR3.out _ _ _,Nat.le_refl _,hbs⟩⟩
 obtain ⟨rfl,g1,rfl,hfs⟩:=hcut
 clear HBV HRV HFV HSV hV HV vx vc hsl ns1 nf1 hbs HS1 HR1 HB1 x0 x1 x2 c0 c1 c2 c3 c4 c5 c6 c7 c8 HR HB hW HW HEW HF
 rename_i wc
 have HFrS:=hid hfs
 clear hfs
 generalize wc=w2 at *
 obtain ⟨c0,c1,c2,c3,c4,c5,c6,c7,c8⟩:=nine HFrS.out.fr
 obtain ⟨s0,s1,s2⟩:=HFrS.out.cells
 have HSR:=hid (HS.out.sr.later HFrS.out.bel)
 obtain ⟨⟨th,tp,ta⟩,gk,gy⟩:=g
 simp only at HO
 go_wp2_with (go_at_call 175; (with_reducible refine (step_is s j mb n d a ph sh sp sa (id:Int) (f:Int) (id:Int) (pr:Int) (pa:Int) y R _ k ⟨⟨th,tp,ta⟩,gk,gy⟩ HSR.out hd hk17 HG.out).mono ?_); rintro e w3 ⟨rfl,hb3⟩; simp only)
 have HF3:=hid (HFrS.out.later hb3)
 clear hb3
 obtain ⟨X,HX⟩:∃ X,Hid (w3.alloc (.cells #[.int .i64 (th:Int),.int .i64 (tp:Int),.int .i64 (ta:Int)] 43)=X):=⟨_,rfl⟩
 obtain ⟨g2,Hg2⟩:∃ n,Hid (w3.heap.size=n):=⟨_,rfl⟩
 have HFX:Hid (FrSt w X w.heap.size g2 f id d k a y ph pr pa th tp ta):=by
  rw [← HX.out,← Hg2.out]
  exact ⟨HF3.out.bel.alloc HF3.out.bel.size _,(Below.heap_alloc w3 _ _ (row_ltJ HF3.out.fr)).trans HF3.out.fr,heap_alloc_new w3 _,Nat.le_refl _,row_ltJ HF3.out.fr⟩
 rw [HX.out,Hg2.out]
 clear HF3 HFrS HX Hg2 c0 c1 c2 c3 c4 c5 c6 c7 c8 s0 s1 s2 HSR
 have HSX:=hid (HS.out.later HFX.out.bel)
 obtain ⟨x0,x1,x2⟩:=HSX.out.sr.cells
 have c2:=(nine HFX.out.fr).2.2.1
 obtain ⟨s0,s1,s2⟩:=HFX.out.cells
 have HNF:Hid (∀ x,w.heap.size≤x→¬ In3 j p q x):=fun x hx e=>by
  obtain ⟨_,_,e1,e2,e3⟩:=HS.out.lts
  unfold In3 at e; omega
 have HNG:Hid (¬ In3 j p q g2):=HNF.out _ (Nat.le_of_lt HFX.out.lg)
 go_cut [12] from 13 (fun s12 wx=>s12=ev A o.c∧wx.heap[w.heap.size]? = some (.cells #[.int .i64 f,.int .i64 id,.int .i64 d,.int .i64 k,.int .i64 a,.bool y,.int .i64 ph,.int .i64 pr,.int .i64 pa] 104 (0,0)) ∧
  wx.heap[g2]? = some (.cells #[.int .i64 (th:Int),.int .i64 (tp:Int),.int .i64 (ta:Int)] 43 (0,0))∧SP w0 wx s j mb p q id R n o.e o.over o.b o.l∧Kept (In3 j p q) w wx)
 case first =>
  go_region_held3 (fun W=>W.cell? ⟨s,0,none⟩=some (.pointer (some ⟨j,0,none⟩))∧W.cell? ⟨w.heap.size,2,none⟩=some (.int .i64 (d:Int))∧W.cell? ⟨g2,0,none⟩=some (.int .i64 (th:Int))∧W.cell? ⟨g2,1,none⟩=some (.int .i64 (tp:Int))∧W.cell? ⟨g2,2,none⟩=some (.int .i64 (ta:Int))) (go_keep) (first|(go_at_call 176; (with_reducible refine (jput_any (d:Int) (th:Int) (tp:Int) (ta:Int) o HO.out HSX.out.jp.drew HE.out HN.out).mono ?_); rintro e w5 ⟨rfl,hj5,hk5⟩; have q1:=keptCell hk5 x0 HSX.out.ns; have q2:=keptCell hk5 c2 (HNF.out _ (Nat.le_refl _)); have q3:=keptCell hk5 s0 HNG.out; have q4:=keptCell hk5 s1 HNG.out; have q5:=keptCell hk5 s2 HNG.out; have HJ5:=hid hj5; have HK5:=hid hk5; clear hj5 hk5))
  all_goals go_wp2_with fail
  all_goals go_meet
  all_goals exact ⟨rfl,HK5.out.row HFX.out.fr (HNF.out _ (Nat.le_refl _)),HK5.out.row HFX.out.st HNG.out,HSX.out.drew.turn HJ5.out HK5.out,(Kept.of_below HFX.out.bel).trans ((Kept.of_below (Below.refl _ _).drew).trans HK5.out)⟩
 obtain ⟨rfl,hr1,hr2,hs6,hk6⟩:=hcut
 clear HSX x0 x1 x2 c2 s0 s1 s2 HFX HNG HO HG
 rename_i wc
 have HR6:=hid hr1
 have HT6:=hid hr2
 have HS6:=hid hs6
 have HK6:=hid hk6
 clear hr1 hr2 hs6 hk6
 generalize wc=w6 at *
 obtain ⟨oc,oe,oo,ob,ol⟩:=o
 simp only at HS6 HK6 ⊢
 cases oc with
 | succ c =>
  unfold ev
  go_wp2_with fail
  go_ret2
  exact ⟨.slice none 0 0,rfl,by unfold AnsV; rw [if_neg (fun h=>by cases h.1)],HS6.out,HK6.out,fun a c hv=>by cases hv⟩
 | zero =>
  unfold ev
  by_cases hgk:gk=0
  ·subst hgk
   go_wp2_with fail
   go_ret2
   exact ⟨.slice none 0 0,rfl,by unfold AnsV; rw [if_neg (fun h=>h.2 rfl)],HS6.out,HK6.out,fun a c hv=>by cases hv⟩
  ·have hgi:¬ (gk:Int)=0:=by omega
   obtain ⟨x0,x1,x2⟩:=HS6.out.sr.cells
   obtain ⟨c0,c1,c2,c3,c4,c5,c6,c7,c8⟩:=nine HR6.out
   have s0:w6.cell? ⟨g2,0,none⟩=some (.int .i64 (th:Int)):=by rw [cell_of_row _ _ _ _ _ _ HT6.out]; rfl
   have s1:w6.cell? ⟨g2,1,none⟩=some (.int .i64 (tp:Int)):=by rw [cell_of_row _ _ _ _ _ _ HT6.out]; rfl
   have s2:w6.cell? ⟨g2,2,none⟩=some (.int .i64 (ta:Int)):=by rw [cell_of_row _ _ _ _ _ _ HT6.out]; rfl
   go_wp2_with fail
   go_region
   all_goals go_wp2_with fail
   all_goals go_ret2
   all_goals refine ⟨_,rfl,?_,HS6.out.later ((Below.refl _ _).alloc (Nat.le_refl _) _).drew,HK6.out.trans (Kept.of_below ((Below.refl _ _).alloc (Nat.le_refl _) _).drew),fun a c hv=>by cases hv; exact HK6.out.size⟩
   all_goals unfold AnsV
   all_goals rw [if_pos ⟨rfl,hgk⟩]
   all_goals exact ⟨_,_,rfl,heap_alloc_new w6 _⟩
end Go.Proofs.YtadhpkopkkjmfaaGreatDoor
namespace Go.Proofs.YtadhpkopkkjmfaaGreatDoor
structure PN where
 R:Nat→Bool
 B:ByteArray
 l:Int
 over:Bool
 ld:Nat→Option (Int×PL)
structure PX where
 nd:Nat→PN
 br:Nat→Nat→Bool
 fly:List F9
 evs:List E3
def dlN (N:PN):Nat→Nat×St:=dealL N.B.data.toList
def stN (N:PN) (d:Nat):St:=(dlN N d).2
def upN (N:PN):Bool:=N.l != -2
def fallN (N:PN):PN:={ N with l:=-2,ld:=fun _=>none }
def setLd (N:PN) (d:Nat) (x:Int×PL):PN:={ N with ld:=fun e=>if e=d then some x else N.ld e }
def setNd (V:PX) (i:Nat) (N:PN):PX:={ V with nd:=fun k=>if k=i then N else V.nd k }
def sendX (V:PX) (L:List F9):PX:={ V with fly:=V.fly ++ L }
def gHN (N:PN) (f:F9):HOut:=hearL (stN N f.d.toNat) (N.R f.d.toNat) f.k.toNat f.a.toNat f.ph.toNat
def oHN (N:PN) (f:F9):POut:=pOut (dlN N) N.over N.B N.l f.d.toNat (gHN N f).st.ph (gHN N f).st.pr (gHN N f).st.at_
def hearN (N:PN) (f:F9):PN:=if (oHN N f).c=6 then fallN { N with B:=(oHN N f).b,over:=(oHN N f).over } else { N with B:=(oHN N f).b,l:=(oHN N f).l,over:=(oHN N f).over }
def ansN (id:Nat) (N:PN) (f:F9):List F9:=if (oHN N f).c=0∧(gHN N f).k≠0 then [⟨id,f.f,f.d,(gHN N f).k,f.a,(gHN N f).yes,(gHN N f).st.ph,(gHN N f).st.pr,(gHN N f).st.at_⟩] else []
def noteE (E:List E3) (i d was is:Nat):List E3:=if is≠was∧finB is=true∧E.length<500 then E ++ [⟨i,d,is⟩] else E
def hearX (V:PX) (i:Nat) (f:F9):PX:={ setNd V i (hearN (V.nd i) f) with evs:=noteE V.evs i f.d.toNat (stN (V.nd i) f.d.toNat).ph (stN (hearN (V.nd i) f) f.d.toNat).ph }
def leadX (zs:List Int) (V:PX) (i d:Nat) (f:F9):PX:=match (V.nd i).ld d with
 | none=>V
 | some x=>setNd V i (setLd (V.nd i) d (x.1,(phear zs i d x.1 x.2 f).1))
def leadO (zs:List Int) (V:PX) (i d:Nat) (f:F9):List F9:=match (V.nd i).ld d with
 | none=>[]
 | some x=>outL i d x.1 zs.length (phear zs i d x.1 x.2 f).2
def isAns (k:Int):Bool:=decide (k=2 ∨ k=4 ∨ k=6)
def arriveX (zs:List Int) (V:PX) (f:F9):PX:=if isAns f.k=true then leadX zs V f.t.toNat f.d.toNat f else hearX V f.t.toNat f
def arriveO (zs:List Int) (V:PX) (f:F9):List F9:=if isAns f.k=true then leadO zs V f.t.toNat f.d.toNat f else ansN f.t.toNat (V.nd f.t.toNat) f
def brX (V:PX) (a b:Nat):Bool:=V.br (min a b) (max a b)
def reachB (V:PX) (f:F9):Bool:=upN (V.nd f.t.toNat) && (f.f == f.t || !brX V f.f.toNat f.t.toNat)
def takeX (V:PX) (k:Nat):PX:={ V with fly:=V.fly.eraseIdx k }
def deliverX (zs:List Int) (V:PX) (k:Nat) (f:F9):PX:=if reachB V f=true then sendX (arriveX zs (takeX V k) f) (arriveO zs (takeX V k) f) else takeX V k
def aboveN (N:PN) (d:Nat):Int:=match N.ld d with
 | none=>(stN N d).pr
 | some x=>max ((stN N d).pr:Int) x.2.seen
def attemptX (n s:Nat) (above:Int):Int:=above+1+((s:Int)+n - (above+1) % n) % n
def electF (s d:Nat) (a:Int):F9:=⟨s,s,d,3,a,false,0,0,0⟩
def electL (s d:Nat) (a:Int) (n:Nat):List F9:=(toL s d 3 a 0 n).eraseIdx s
def hearsL (zs:List Int) (s d:Nat) (a:Int):PL→List F9→PL×List F9
 | P,[]=>(P,[])
 | P,f :: r=>((hearsL zs s d a (phear zs s d a P f).1 r).1,outL s d a zs.length (phear zs s d a P f).2 ++ (hearsL zs s d a (phear zs s d a P f).1 r).2)
def tryX (zs:List Int) (V:PX) (s d:Nat) (a:Int):PX :=
 if 1048576<a then V
 else if upN (hearN (V.nd s) (electF s d a))=false then hearX V s (electF s d a)
 else sendX (setNd (hearX V s (electF s d a)) s (setLd (hearN (V.nd s) (electF s d a)) d (a,(hearsL zs s d a P0 (ansN s (V.nd s) (electF s d a))).1)))
  (electL s d a zs.length ++ (hearsL zs s d a P0 (ansN s (V.nd s) (electF s d a))).2)
def tickD (zs:List Int) (V:PX) (s d:Nat):PX :=
 @ite PX (stN (V.nd s) d=St.zero) (stEq _ _) V (if finB (stN (V.nd s) d).ph=true then sendX V (toL s d 7 (stN (V.nd s) d).pr (stN (V.nd s) d).ph zs.length)
 else tryX zs V s d (attemptX zs.length s (aboveN (V.nd s) d)))
def tickX (zs:List Int) (s:Nat):Nat→Nat→PX→PX
 | 0,_,V=>V
 | k+1,d,V=>if upN ((tickD zs V s d).nd s)=true then tickX zs s k (d+1) (tickD zs V s d) else tickD zs V s d
def heldX (n:Nat) (V:PX) (d:Nat):Bool:=(List.range n).any fun i=>((V.nd i).ld d).isSome || !(decide ((stN (V.nd i) d).ph=0∧(stN (V.nd i) d).pr=0∧(stN (V.nd i) d).at_=0))
def beginX (zs:List Int) (V:PX) (s d:Nat):PX:=sendX (setNd V s (setLd (V.nd s) d (0,P0))) (toL s d 1 0 0 zs.length)
def refuseX (V:PX) (s d:Nat):PX:=setNd V s { V.nd s with R:=updR (V.nd s).R d }
def twiceX (V:PX) (k:Nat) (f:F9):PX:={ V with fly:=V.fly.take k ++ f :: V.fly.drop k }
def linkX (V:PX) (a b:Nat) (whole:Bool):PX:={ V with br:=fun x y=>if x=min a b∧y=max a b then !whole else V.br x y }
def cutX (V:PX) (s:Nat) (n:Int):PX:=setNd V s { V.nd s with l:=cL (V.nd s).l n }
def downX (V:PX) (s:Nat):PX:=setNd V s (fallN (V.nd s))
def upX (V:PX) (s:Nat):PX:=setNd V s { V.nd s with l:=-1,over:=false,R:=fun _=>false }
def newN (n:Nat):PN:=⟨fun _=>false,zeroB n,-1,false,fun _=>none⟩
def newX:PX:=⟨fun _=>newN 512,fun _ _=>false,[],[]⟩
structure NI (n:Nat) (N:PN) (m:Nat):Prop where
 gd:∀ d,d<6→(dlN N d).2.good
 nm:∀ d,d<6→(dlN N d).1≤m
 sz:N.B.size=512
 up:N.l≠-2→N.over=false
 l0:-2≤N.l
 l1:N.l≤9223372036854775807
 ld:∀ d x,N.ld d=some x→N.l≠-2∧(0≤x.1∧x.1≤1048576)∧x.2.stt<4∧(0≤x.2.seen∧x.2.seen≤1048576)∧PW n x.2
structure FI (n:Nat) (f:F9):Prop where
 f0:0≤f.f
 f1:f.f<n
 t0:0≤f.t
 t1:f.t<n
 ok:frOk f.f f.t f.d f.k f.a f.ph f.pr f.pa
structure XI (zs:List Int) (V:PX) (m:Nat):Prop where
 he:errW zs=0
 nd:∀ i,i<zs.length→NI zs.length (V.nd i) m
 fr:∀ f,f∈V.fly→FI zs.length f
 fl:V.fly.length≤1000 * m
 ev:V.evs.length≤500
end Go.Proofs.YtadhpkopkkjmfaaGreatDoor
namespace Go.Proofs.YtadhpkopkkjmfaaGreatDoor
open Go.RowKit
structure NB where
 nd:Nat
 s:Nat
 j:Nat
 mb:Nat
 p:Nat
 q:Nat
 lb:Nat→Nat
 b:Nat→Nat
 cap:Nat→Nat
def ldV (K:NB) (N:PN) (d:Nat):Value:=match N.ld d with
 | none=>.pointer none
 | some _=>.pointer (some ⟨K.lb d,0,none⟩)
theorem ldV_none {K:NB} {N:PN} {d:Nat} (h:N.ld d=none):ldV K N d=.pointer none:=by unfold ldV; rw [h]
theorem ldV_some {K:NB} {N:PN} {d:Nat} {x:Int×PL} (h:N.ld d=some x):ldV K N d=.pointer (some ⟨K.lb d,0,none⟩):=by unfold ldV; rw [h]
def ndC (K:NB) (N:PN):List Value:=[.pointer (some ⟨K.s,0,none⟩),ldV K N 0,ldV K N 1,ldV K N 2,ldV K N 3,ldV K N 4,ldV K N 5]
structure ND (w0 w:World) (C:Nat→Nat) (K:NB) (i:Nat) (zs:List Int) (N:PN) (m:Nat):Prop where
 row:w.heap[K.nd]? = some (.cells (ndC K N).toArray 95 (0,0))
 sp:SP w0 w K.s K.j K.mb K.p K.q i N.R m (dlN N) N.over N.B N.l
 lds:∀ d,d<6→∀ x,N.ld d=some x→LD w (K.lb d) (K.b d) (K.cap d) i d x.1 zs x.2
 cn:C K.nd=100 * i+1
 cs:C K.s=100 * i+2
 cj:C K.j=100 * i+3
 cm:C K.mb=100 * i+4
 cp:C K.p=100 * i+5
 cq:C K.q=100 * i+6
 cl:∀ d,d<6→∀ x,N.ld d=some x→C (K.lb d)=100 * i+10+d∧C (K.b d)=100 * i+20+d
 n0:w0.heap.size≤K.nd
section
variable {w0 w w':World} {C C':Nat→Nat} {K:NB} {i m:Nat} {zs:List Int} {N:PN}
theorem ND.kept {S:Nat→Prop} (h:ND w0 w C K i zs N m) (k:Kept S w w') (hS:∀ x,x<w.heap.size→C x / 100=i→¬ S x) (hb:∀ x,S x→w0.heap.size≤x):ND w0 w' C K i zs N m:=by
 obtain ⟨l1,l2,l3,l4,l5⟩:=h.sp.lts
 have e1:=h.cs; have e2:=h.cj; have e3:=h.cm; have e4:=h.cp; have e5:=h.cq; have e6:=h.cn
 refine ⟨k.row h.row (hS _ (row_ltJ h.row) (by omega)),h.sp.far k hb ?_ (hS _ l1 (by omega)) (hS _ l2 (by omega)),fun d hd x hx=>?_,h.cn,h.cs,h.cj,h.cm,h.cp,h.cq,h.cl,h.n0⟩
 ·rintro x (rfl|rfl|rfl)
  ·exact hS _ l3 (by omega)
  ·exact hS _ l4 (by omega)
  ·exact hS _ l5 (by omega)
 ·have g:=h.cl d hd x hx
  have r:=h.lds d hd x hx
  have r1:=row_ltJ r.row
  exact r.kept k (hS _ r1 (by omega)) (hS _ (Nat.lt_trans r.bl r1) (by omega))
theorem ND.later (h:ND w0 w C K i zs N m) (hb:Below w.heap.size w w'):ND w0 w' C K i zs N m :=
 h.kept (S:=fun _=>False) (Kept.of_below hb) (fun _ _ _ x=>x) (fun _ x=>x.elim)
theorem ND.col (h:ND w0 w C K i zs N m) (hC:∀ x,x<w.heap.size→C' x=C x):ND w0 w C' K i zs N m:=by
 obtain ⟨l1,l2,l3,l4,l5⟩:=h.sp.lts
 refine ⟨h.row,h.sp,h.lds,(hC _ (row_ltJ h.row)).trans h.cn,(hC _ l1).trans h.cs,(hC _ l3).trans h.cj,(hC _ l2).trans h.cm,(hC _ l4).trans h.cp,(hC _ l5).trans h.cq,fun d hd x hx=>?_,h.n0⟩
 have g:=h.cl d hd x hx
 have r:=h.lds d hd x hx
 have r1:=row_ltJ r.row
 exact ⟨(hC _ r1).trans g.1,(hC _ (Nat.lt_trans r.bl r1)).trans g.2⟩
theorem ND.mono {k:Nat} (h:ND w0 w C K i zs N m) (hk:m≤k):ND w0 w C K i zs N k:=⟨h.row,h.sp.mono hk,h.lds,h.cn,h.cs,h.cj,h.cm,h.cp,h.cq,h.cl,h.n0⟩
theorem ND.cell (h:ND w0 w C K i zs N m) (j:Nat):w.cell? ⟨K.nd,j,none⟩=(ndC K N)[j]?:=by
 rw [cell_of_row w K.nd j _ _ _ h.row,List.getElem?_toArray]
theorem ND.site (h:ND w0 w C K i zs N m):w.cell? ⟨K.nd,0,none⟩=some (.pointer (some ⟨K.s,0,none⟩)):=h.cell 0
theorem ND.lead (h:ND w0 w C K i zs N m) {d:Nat} (hd:d<6):w.cell? ⟨K.nd,1+d,none⟩=some (ldV K N d):=by
 rw [h.cell]
 rcases six hd with rfl|rfl|rfl|rfl|rfl|rfl <;> rfl
theorem ND.fz (h:ND w0 w C K i zs N m) (j:Nat):w.frozen? ⟨K.nd,j,none⟩=false:=frozen_of_row w K.nd j _ _ h.row
theorem ND.way (h:ND w0 w C K i zs N m):w.cell? ⟨K.nd,0,none⟩=some (.pointer (some ⟨K.s,0,none⟩))∧w.cell? ⟨K.s,0,none⟩=some (.pointer (some ⟨K.j,0,none⟩))∧w.cell? ⟨K.j,0,none⟩=some (.pointer (some ⟨K.p,0,none⟩)) :=
 ⟨h.site,h.sp.sr.cells.1,h.sp.jp.jr.plate⟩
end
structure XB where
 xb:Nat
 wb:Nat
 wc:Nat
 nb:Nat
 nc:Nat
 mb:Nat
 fv:Value
 ev:Value
 K:Nat→NB
def wdC (X:XB) (n:Nat):List Value:=[.slice (some ⟨X.wb,0,none⟩) n X.wc,.slice (some ⟨X.nb,0,none⟩) n X.nc,.map (some X.mb),X.fv,X.ev]
def pairV (a b:Nat):Value:=.agg #[.int .i64 (a:Int),.int .i64 (b:Int)]
structure WD (w0 w:World) (C:Nat→Nat) (X:XB) (zs:List Int) (V:PX) (m:Nat):Prop where
 bel:Below w0.heap.size w0 w
 row:w.heap[X.xb]? = some (.cells (wdC X zs.length).toArray 84 (0,0))
 ws:∀ i,i<zs.length→w.cell? ⟨X.wb,0+i,none⟩=some (.int .i64 (zs.getD i 0))
 ns:∀ i,i<zs.length→w.cell? ⟨X.nb,i,none⟩=some (.pointer (some ⟨(X.K i).nd,0,none⟩))
 nds:∀ i,i<zs.length→ND w0 w C (X.K i) i zs (V.nd i) m
 brk:∃ D:DataW Unit,w.ownsMap Tryz.prog 124 unitElem X.mb m D∧∀ a b,a<7→b<7→∀ l,keyOf Tryz.prog 124 (pairV a b)=some l→Maps.has D l=V.br a b
 fly:OwnF w w0.heap.size X.fv V.fly
 evs:w.ownsRow w0.heap.size 75 3 X.ev V.evs.length (evCells V.evs)
 cx:C X.xb=1001
 cw:C X.wb=1002
 cn:C X.nb=1003
 cm:C X.mb=1004
 cf:∀ g,X.fv.ownBlock=some g→C g=1005
 ce:∀ g,X.ev.ownBlock=some g→C g=1006
 lt:∀ x,C x<2000→x<w.heap.size
 low:∀ x,C x<2000→w0.heap.size≤x
 inv:XI zs V m
theorem own_kept {S:Nat→Prop} {w w':World} {e:TypeId} {size n base:Nat} {v:Value} {xs:List Value} (h:w.ownsRow base e size v n xs) (k:Kept S w w') (hs:∀ g,v.ownBlock=some g→¬ S g):w'.ownsRow base e size v n xs:=by
 refine ⟨h.1,?_⟩
 rcases h.2 with hn|⟨g,cap,cur,rfl,hb',hgg,rest⟩
 ·exact .inl hn
 ·exact .inr ⟨g,cap,cur,rfl,hb',k.row hgg (hs g rfl),rest⟩
theorem cell_kept {S:Nat→Prop} {w w':World} {a:Addr} {v:Value} (h:w.cell? a=some v) (k:Kept S w w') (hs:¬ S a.block):w'.cell? a=some v:=by
 have hb:=cell_lt h
 unfold World.cell? at h ⊢
 rw [k.block _ hb hs]
 exact h
section
variable {w0 w w':World} {C C':Nat→Nat} {X:XB} {m:Nat} {zs:List Int} {V V':PX}
theorem WD.n7 (h:WD w0 w C X zs V m):1≤zs.length∧zs.length≤7:=⟨(errW_zero h.inv.he).1,(errW_zero h.inv.he).2.1⟩
theorem WD.later (h:WD w0 w C X zs V m) (hb:Below w.heap.size w w'):WD w0 w' C X zs V m:=by
 have k:Kept (fun _=>False) w w':=Kept.of_below hb
 obtain ⟨D,hD,hh⟩:=h.brk
 exact ⟨h.bel.trans (hb.mono h.bel.size),k.row h.row (fun x=>x),fun i hi=>cell_kept (h.ws i hi) k (fun x=>x),fun i hi=>cell_kept (h.ns i hi) k (fun x=>x),fun i hi=>(h.nds i hi).later hb,
  ⟨D,ownsMap_kept hD k (fun x=>x),hh⟩,h.fly.kept k (fun _ _ x=>x),own_kept h.evs k (fun _ _ x=>x),h.cx,h.cw,h.cn,h.cm,h.cf,h.ce,fun x hx=>Nat.lt_of_lt_of_le (h.lt x hx) hb.size,h.low,h.inv⟩
theorem WD.drew (h:WD w0 w C X zs V m):WD w0 w.drew C X zs V m:=h.later (Below.refl _ _).drew
theorem WD.cell (h:WD w0 w C X zs V m) (j:Nat):w.cell? ⟨X.xb,j,none⟩=(wdC X zs.length)[j]?:=by
 rw [cell_of_row w X.xb j _ _ _ h.row,List.getElem?_toArray]
theorem WD.cells (h:WD w0 w C X zs V m):w.cell? ⟨X.xb,0,none⟩=some (.slice (some ⟨X.wb,0,none⟩) zs.length X.wc)∧w.cell? ⟨X.xb,1,none⟩=some (.slice (some ⟨X.nb,0,none⟩) zs.length X.nc)∧w.cell? ⟨X.xb,2,none⟩=some (.map (some X.mb))∧w.cell? ⟨X.xb,3,none⟩=some X.fv∧w.cell? ⟨X.xb,4,none⟩=some X.ev :=
 ⟨h.cell 0,h.cell 1,h.cell 2,h.cell 3,h.cell 4⟩
theorem WD.fz (h:WD w0 w C X zs V m) (j:Nat):w.frozen? ⟨X.xb,j,none⟩=false:=frozen_of_row w X.xb j _ _ h.row
def OwnX (C:Nat→Nat) (x:Nat):Prop:=C x<2000
theorem WD.held {A:Nat→Addr} (h:WD w0 w C X zs V m) (hE:Held9 w0 A):Held9 w A:=hE.later h.bel
theorem WD.node {S:Nat→Prop} {i m':Nat} {N:PN} {K:NB} (h:WD w0 w C X zs V m) (k:Kept S w w') (hi:i<zs.length) (hS:∀ x,S x→C x / 100=i) (hC:∀ x,x<w.heap.size→C' x=C x) (hl:∀ x,w.heap.size≤x→C' x<2000→x<w'.heap.size) (hN:ND w0 w' C' K i zs N m') (hK:K.nd=(X.K i).nd) (hm:m≤m') (hI:XI zs (setNd V i N) m') :
  WD w0 w' C' { X with K:=fun e=>if e=i then K else X.K e } zs (setNd V i N) m':=by
 have n7:=h.n7.2
 have hs0:=h.bel.size
 have hlow:∀ x,S x→w0.heap.size≤x:=fun x hx=>h.low x (by have:=hS x hx; omega)
 have nS:∀ x,C x / 100≠i→¬ S x:=fun x hx hs=>hx (hS x hs)
 obtain ⟨D,hD,hh⟩:=h.brk
 have cx:=h.cx; have cw:=h.cw; have cn:=h.cn; have cm:=h.cm
 have o:∀ {x c:Nat},C x=c→c<2000→C' x=c:=fun {x c} e hc=>(hC x (h.lt x (by omega))).trans e
 refine ⟨k.below h.bel.size hlow h.bel,k.row h.row (nS X.xb (by omega)),fun e he=>cell_kept (h.ws e he) k (nS _ (by show C X.wb / 100≠i; omega)),fun e he=>?_,fun e he=>?_,
  ⟨D,(ownsMap_kept hD k (nS X.mb (by omega))).mono hm,hh⟩,h.fly.kept k (fun g hg=>nS g (by have:=h.cf g hg; omega)),own_kept h.evs k (fun g hg=>nS g (by have:=h.ce g hg; omega)),o h.cx (by omega),o h.cw (by omega),o h.cn (by omega),o h.cm (by omega),fun g hg=>o (h.cf g hg) (by omega),fun g hg=>o (h.ce g hg) (by omega),fun x hx=>?_,fun x hx=>?_,hI⟩
 ·have:=cell_kept (h.ns e he) k (nS _ (by show C X.nb / 100≠i; omega))
  rw [this]
  by_cases g:e=i
  ·subst g; simp [hK]
  ·simp [g]
 ·by_cases g:e=i
  ·subst g
   simpa [setNd] using hN
  ·have:=(((h.nds e he).col hC).kept k (fun x hlt hx=>nS x (by rw [← hC x hlt]; omega)) hlow).mono hm
   simpa [setNd,g] using this
 ·rcases Nat.lt_or_ge x w.heap.size with q|q
  ·exact Nat.lt_of_lt_of_le q k.size
  ·exact hl x q hx
 ·rcases Nat.lt_or_ge x w.heap.size with q|q
  ·exact h.low x (by rw [← hC x q]; exact hx)
  ·omega
theorem WD.grow (h:WD w0 w C X zs V m) (hb:Below w.heap.size w w') (hC:∀ x,x<w.heap.size→C' x=C x) (hl:∀ x,w.heap.size≤x→C' x<2000→x<w'.heap.size):WD w0 w' C' X zs V m:=by
 have g:=h.later hb
 obtain ⟨D,hD,hh⟩:=g.brk
 have hs:=h.bel.size
 have o:∀ {x c:Nat},C x=c→c<2000→C' x=c:=fun {x c} e hc=>(hC x (h.lt x (by omega))).trans e
 refine ⟨g.bel,g.row,g.ws,g.ns,fun i hi=>((h.nds i hi).col hC).later hb,⟨D,hD,hh⟩,g.fly,g.evs,o h.cx (by omega),o h.cw (by omega),o h.cn (by omega),o h.cm (by omega),fun g hg=>o (h.cf g hg) (by omega),fun g hg=>o (h.ce g hg) (by omega),fun x hx=>?_,fun x hx=>?_,h.inv⟩
 ·rcases Nat.lt_or_ge x w.heap.size with q|q
  ·exact Nat.lt_of_lt_of_le q hb.size
  ·exact hl x q hx
 ·rcases Nat.lt_or_ge x w.heap.size with q|q
  ·exact h.low x (by rw [← hC x q]; exact hx)
  ·omega
def paint (C:Nat→Nat) (x c:Nat):Nat→Nat:=fun y=>if y=x then c else C y
theorem paint_at (C:Nat→Nat) (x c:Nat):paint C x c x=c:=if_pos rfl
theorem paint_ne {C:Nat→Nat} {x c y:Nat} (h:y≠x):paint C x c y=C y:=if_neg h
theorem WD.own {fv ev:Value} {F:List F9} {E:List E3} {m':Nat} {S:Nat→Prop} (h:WD w0 w C X zs V m) (k:Kept S w w') (hS:∀ x,S x→C x=1001 ∨ C x=1005 ∨ C x=1006) (hC:∀ x,x<w.heap.size→C' x=C x) (hl:∀ x,w.heap.size≤x→C' x<2000→x<w'.heap.size) (hr:w'.heap[X.xb]? = some (.cells (wdC { X with fv:=fv,ev:=ev } zs.length).toArray 84 (0,0)))
  (hf:OwnF w' w0.heap.size fv F) (he:w'.ownsRow w0.heap.size 75 3 ev E.length (evCells E)) (cf:∀ g,fv.ownBlock=some g→C' g=1005) (ce:∀ g,ev.ownBlock=some g→C' g=1006) (hm:m≤m') (hI:XI zs { V with fly:=F,evs:=E } m') :
  WD w0 w' C' { X with fv:=fv,ev:=ev } zs { V with fly:=F,evs:=E } m':=by
 have n7:=h.n7.2
 have hs0:=h.bel.size
 have hlow:∀ x,S x→w0.heap.size≤x:=fun x hx=>h.low x (by rcases hS x hx with g|g|g <;> omega)
 have nS:∀ x,C x≠1001→C x≠1005→C x≠1006→¬ S x:=fun x h1 h2 h3 hs=>by rcases hS x hs with g|g|g <;> omega
 obtain ⟨D,hD,hh⟩:=h.brk
 have cx:=h.cx; have cw:=h.cw; have cn:=h.cn; have cm:=h.cm
 have o:∀ {x c:Nat},C x=c→c<2000→C' x=c:=fun {x c} e hc=>(hC x (h.lt x (by omega))).trans e
 refine ⟨k.below h.bel.size hlow h.bel,hr,fun e he=>cell_kept (h.ws e he) k (nS _ (by show C X.wb≠_; omega) (by show C X.wb≠_; omega) (by show C X.wb≠_; omega)),fun e he=>cell_kept (h.ns e he) k (nS _ (by show C X.nb≠_; omega) (by show C X.nb≠_; omega) (by show C X.nb≠_; omega)),fun e he=>(((h.nds e he).col hC).kept k (fun x hlt hx=>by rw [hC x hlt] at hx; exact nS x (by omega) (by omega) (by omega)) hlow).mono hm,
  ⟨D,(ownsMap_kept hD k (nS X.mb (by omega) (by omega) (by omega))).mono hm,hh⟩,hf,he,o h.cx (by omega),o h.cw (by omega),o h.cn (by omega),o h.cm (by omega),cf,ce,fun x hx=>?_,fun x hx=>?_,hI⟩
 ·rcases Nat.lt_or_ge x w.heap.size with q|q
  ·exact Nat.lt_of_lt_of_le q k.size
  ·exact hl x q hx
 ·rcases Nat.lt_or_ge x w.heap.size with q|q
  ·exact h.low x (by rw [← hC x q]; exact hx)
  ·omega
end
end Go.Proofs.YtadhpkopkkjmfaaGreatDoor
