/-
  On the way to SPlaysProof: S9 SA VA VI VV.
-/
import Derived.Test.YtaehdgemkafinaaGreatDoorBw14
set_option maxHeartbeats 8000000
set_option maxRecDepth 100000
namespace Go.Proofs.YtaehdgemkafinaaGreatDoor
open Go.RowKit
theorem kept_grown {w w':World} {b:Nat} (h:w.grownBy w' (some b)):Kept (In1 b) w w':=⟨h.os,h.tape,h.output,h.size,fun k hk hs=>h.block k hk (fun e=>hs (Option.some.inj e))⟩
theorem snew_err (A:Nat→Addr) (id:Int) (p q:Nat) (B:ByteArray) (l:Int) (c:Nat) (w:World) (h:Pl w p q B l) (hE:HeldE w A) (hB:B.size≤1000) (hc:rC B l 0 216=c+1) (h0:0≤id) (h7:id<7) :
  Calls Tryz.prog 123 #[.int .i64 id,.pointer (some ⟨p,0,none⟩)] w fun e w'=>e=.returned (.tuple #[.pointer none,.iface 318 (.pointer (some (A c)))])∧w'=w:=by
 have H:=hid h
 have HE:=hid hE
 have HC:=hid hc
 clear h hE hc
 go_enter Tryz.func123,Tryz.ntmps123
 go_wp2_with (go_at_call 169; (with_reducible refine (open_bad A p q B l c _ H.out HE.out hB HC.out).mono ?_); rintro e wx ⟨rfl,hx⟩; subst wx)
 go_ret2
 exact ⟨rfl,rfl⟩
theorem snew_ok (A:Nat→Addr) (id:Int) (p q:Nat) (B:ByteArray) (l:Int) (w:World) (h:Pl w p q B l) (hE:HeldE w A) (hB:B.size≤1000) (h6:216≤B.size) (hl:¬ l=-2) (h0:0≤id) (h7:id<7) :
  Calls Tryz.prog 123 #[.int .i64 id,.pointer (some ⟨p,0,none⟩)] w fun e w'=>∃ s j mb,e=.returned (.tuple #[.pointer (some ⟨s,0,none⟩),.nilIface])∧JR w' j p (dealL B.data.toList) false∧SR w' s j mb id (fun _=>false) 0∧Below w.heap.size w w'∧w.heap.size≤j∧j<mb∧mb<s:=by
 have H:=hid h
 have HE:=hid hE
 clear h hE
 have hmm:=@run_makeMap Tryz.prog
 go_enter Tryz.func123,Tryz.ntmps123
 go_wp2_with (go_at_call 169; (with_reducible refine (open_ok A p q B l _ H.out HE.out hB h6 hl).mono ?_); rintro e w1 ⟨j,rfl,hj,hb,hj0⟩; have HJ:=hid hj; have HB:=hid hb; have HJ0:=hid hj0; clear hj hb hj0)
 go_ret2
 have hs:(w1.alloc (.map #[] 0)).heap.size=w1.heap.size+1:=by simp
 have hb2:Below w1.heap.size w1 (w1.alloc (.map #[] 0)):=(Below.refl _ _).alloc (Nat.le_refl _) _
 have hb3:=hb2.alloc hb2.size (.cells #[.pointer (some ⟨j,0,none⟩),.int .i64 id,.map (some w1.heap.size)] 160)
 refine ⟨w1.heap.size+1,j,w1.heap.size,rfl,HJ.out.later hb3 HJ.out.lt,⟨?_,.map [],(World.ownsMap_made w1 _ _ _).alloc _,fun d _=>rfl⟩,HB.out.trans (hb3.mono HB.out.size),HJ0.out,HJ.out.lt,Nat.lt_succ_self _⟩
 have:=heap_alloc_new (w1.alloc (.map #[] 0)) (.cells #[.pointer (some ⟨j,0,none⟩),.int .i64 id,.map (some w1.heap.size)] 160)
 rw [hs] at this
 exact this
section
variable {w0 w w1 w2:World} {s j mb p q n:Nat} {id:Int} {R:Nat→Bool} {E:Nat→Nat×St} {over:Bool} {B:ByteArray} {l:Int} {A:Nat→Addr}
theorem sp_new (hb:Below w0.heap.size w0 w1) (h:Pl w1 p q B l) (hp:w0.heap.size≤p) (hq:w0.heap.size≤q) (hj:JR w2 j p E over) (hs:SR w2 s j mb id R n) (hb2:Below w1.heap.size w1 w2) (hj0:w1.heap.size≤j) (hm:j<mb) (hms:mb<s) (h0:-2≤l) (h1:l≤9223372036854775807) (hz:B.size≤1000) (h6:216≤B.size) :
  SP w0 w2 s j mb p q id R n E over B l:=by
 have e1:=row_lt h.head
 have e2:=row_lt h.row
 have e3:=hb.size
 exact ⟨jp_new hb h hp hq hj hb2 hj0 h0 h1 hz h6,hs,fun g=>by unfold In3 at g; omega,fun g=>by unfold In3 at g; omega,by omega,by omega,by omega⟩
theorem sstate_is (d h1 h2 h3:Nat) (hj:JR w j p E over) (h:SR w s j mb id R n) (hd:d<6) (hs:(E d).2=⟨h1,h2,h3⟩) :
  Calls Tryz.prog 161 #[.pointer (some ⟨s,0,none⟩),.int .i64 (d:Int)] w fun e w'=>e=.returned (.tuple #[agS h1 h2 h3,.nilIface])∧Below w.heap.size w w':=by
 obtain ⟨W,HW⟩:∃ W,Hid (w.alloc (.cells #[.int .i64 0,.int .i64 0,.int .i64 0] 80)=W):=⟨_,rfl⟩
 have HB:Hid (Below w.heap.size w W):=by rw [← HW.out]; exact (Below.refl _ _).alloc (Nat.le_refl _) _
 have HR:Hid (W.heap[w.heap.size]? = some (.cells #[.int .i64 0,.int .i64 0,.int .i64 0] 80 (0,0))):=by rw [← HW.out]; exact heap_alloc_new w _
 have HJ:=hid (hj.later HB.out hj.lt)
 obtain ⟨x0,x1,x2⟩:=(h.later HB.out).cells
 have HS:=hid hs
 have hW:=HW.out
 clear hj h hs
 go_enter Tryz.func161,Tryz.ntmps161
 go_wp2_with (go_at_call 160; (with_reducible refine (get_is j p d E over h1 h2 h3 _ HJ.out hd HS.out).mono ?_); rintro e w1 ⟨rfl,hb1⟩; have HR1:=hid ((hb1.block _ (row_ltJ HR.out)).trans HR.out); have HB1:=hid (HB.out.trans (hb1.mono HB.out.size)); clear hb1; have c0:w1.cell? ⟨w.heap.size,0,none⟩=some (.int .i64 0):=(cell_of_row _ _ 0 _ _ _ HR1.out); have c1:w1.cell? ⟨w.heap.size,1,none⟩=some (.int .i64 0):=(cell_of_row _ _ 1 _ _ _ HR1.out); have c2:w1.cell? ⟨w.heap.size,2,none⟩=some (.int .i64 0):=(cell_of_row _ _ 2 _ _ _ HR1.out); have z0:=frozen_of_row _ _ 0 _ _ HR1.out; have z1:=frozen_of_row _ _ 1 _ _ HR1.out; have z2:=frozen_of_row _ _ 2 _ _ HR1.out)
 refine bodyPost_ret (results_row2 rfl _ _ w.heap.size 80 _ (0,0) _ rfl (set3 HR1.out _ _ _) Tryz.underlying80 rfl sizeState) rfl ?_
 exact ⟨rfl,((HB1.out.setCell (Nat.le_refl _) _).setCell (Nat.le_refl _) _).setCell (Nat.le_refl _) _⟩
theorem has_upd {D:DataW Unit} {R:Nat→Bool} (hm:Maps.IsMap D) (hh:∀ d:Nat,d<6→Maps.has D (.int .i64 (d:Int))=R d) (x:DataW Unit) (e:Nat):∀ d:Nat,d<6→Maps.has (D.put (.int .i64 (e:Int)) x) (.int .i64 (d:Int))=updR R e d:=by
 intro d hd
 unfold updR
 by_cases g:d=e
 ·subst g
  rw [if_pos rfl]
  exact Maps.has_put_same (k:=.int .i64 (d:Int)) hm (by unfold WideAt.IsKeyLit; trivial) x
 ·rw [if_neg g,Maps.has_put_other (fun h=>g (by injection h with _ h2; omega))]
  exact hh d hd
theorem srefuse_ok (d:Nat) (hj:JR w j p E over) (h:SR w s j mb id R n) (hd:d<6) (hn:n≤1000000) :
  Calls Tryz.prog 106 #[.pointer (some ⟨s,0,none⟩),.int .i64 (d:Int)] w fun e w'=>e=.returned .nilIface∧SR w' s j mb id (updR R d) (n+1)∧Kept (In1 mb) w w'∧s≠mb:=by
 obtain ⟨⟨h1,h2,h3⟩,HS⟩:∃ x,Hid ((E d).2=x):=⟨_,rfl⟩
 have HJ:=hid hj
 have HR:=hid h
 obtain ⟨x0,x1,x2⟩:=h.cells
 have hk:=mkeyN hd
 have hne:s≠mb:=by
  obtain ⟨r,D,⟨es,cl,hb,_⟩,_⟩:=h
  intro e
  subst e
  rw [r] at hb
  cases hb
 clear hj h
 go_enter Tryz.func106,Tryz.ntmps106
 go_wp2_with (first|(go_at_call 160; (with_reducible refine (get_is j p d E over h1 h2 h3 _ HJ.out hd HS.out).mono ?_); rintro e w1 ⟨rfl,hb1⟩; have HR1:=hid (HR.out.later hb1); have HB1:=hid hb1; clear hb1; obtain ⟨D,hD,hh⟩:=HR1.out.ref; have HD:=hid hD; have HH:=hid hh; clear hD hh; obtain ⟨x0,x1,x2⟩:=HR1.out.cells; have hs1:=HR1.out.lts)|(at_mapUpdate; refine wpList_mapUpdate_own _ rfl _ _ _ 158 rfl 3 174 mlaw Tryz.underlying158 (unitElem (H:=Unit)) mb n D rfl (HD.out.alloc _) (by unfold maxLen; omega) _ _ _ rfl rfl hk _ [] unitElem_mk ?_; intro w2 hown2 hgrow2))
 go_ret
 have b2:=(Below.refl w1.heap.size w1).alloc (Nat.le_refl _) (.cells #[.int .i64 (h1:Int),.int .i64 (h2:Int),.int .i64 (h3:Int)] 80)
 have k2:=(Kept.of_below (S:=In1 mb) (HB1.out)).trans ((Kept.of_below b2).trans (kept_grown hgrow2))
 exact ⟨rfl,⟨k2.row HR.out.row hne,_,hown2,has_upd HD.out.isMap HH.out _ d⟩,k2,hne⟩
end
theorem keptCell {S:Nat→Prop} {w w':World} {a:Addr} {v:Value} (h:Kept S w w') (hc:w.cell? a=some v) (hs:¬ S a.block):w'.cell? a=some v:=by
 rw [World.cell?_of_block (w:=w) (h.block a.block (cell_lt hc) hs)]; exact hc
theorem cell3_other {w:World} {g:Nat} {a b c:Value} {ad:Addr} {v:Value} (h:w.cell? ad=some v) (hne:ad.block≠g):(((w.setCell ⟨g,0,none⟩ a).setCell ⟨g,1,none⟩ b).setCell ⟨g,2,none⟩ c).cell? ad=some v:=by
 rw [World.cell?_of_block (w:=w) (by rw [heap_setCell_other _ _ _ _ hne,heap_setCell_other _ _ _ _ hne,heap_setCell_other _ _ _ _ hne])]
 exact h
structure FrSt (w wx:World) (b g:Nat) (f t d k a:Int) (y:Bool) (ph pr pa:Int) (x0 x1 x2:Nat):Prop where
 bel:Below w.heap.size w wx
 fr:wx.heap[b]? = some (.cells #[.int .i64 f,.int .i64 t,.int .i64 d,.int .i64 k,.int .i64 a,.bool y,.int .i64 ph,.int .i64 pr,.int .i64 pa] 125 (0,0))
 st:wx.heap[g]? = some (.cells #[.int .i64 (x0:Int),.int .i64 (x1:Int),.int .i64 (x2:Int)] 80 (0,0))
 lb:w.heap.size≤b
 lg:b<g
section
variable {w wx:World} {b g:Nat} {f t d k a:Int} {y:Bool} {ph pr pa:Int} {x0 x1 x2:Nat}
theorem FrSt.later {wy:World} (h:FrSt w wx b g f t d k a y ph pr pa x0 x1 x2) (hb:Below wx.heap.size wx wy):FrSt w wy b g f t d k a y ph pr pa x0 x1 x2 :=
 ⟨h.bel.trans (hb.mono h.bel.size),(hb.block _ (row_ltJ h.fr)).trans h.fr,(hb.block _ (row_ltJ h.st)).trans h.st,h.lb,h.lg⟩
theorem FrSt.cells (h:FrSt w wx b g f t d k a y ph pr pa x0 x1 x2):wx.cell? ⟨g,0,none⟩=some (.int .i64 (x0:Int))∧wx.cell? ⟨g,1,none⟩=some (.int .i64 (x1:Int))∧wx.cell? ⟨g,2,none⟩=some (.int .i64 (x2:Int)):=by
 refine ⟨?_,?_,?_⟩ <;> rw [cell_of_row _ _ _ _ _ _ h.st] <;> rfl
end
theorem shear_inB (A:Nat→Addr) (w0 w:World) (s j mb p q n:Nat) (id f d k a ph pr pa:Nat) (y:Bool) (R:Nat→Bool) (E:Nat→Nat×St) (over:Bool) (B:ByteArray) (l:Int) (g:HOut) (o:POut)
  (h:SP w0 w s j mb p q id R n E over B l) (hE:HeldE w0 A) (hn:∀ d,d<6→(E d).1<4294967296) (hf:frOk f id d k a ph pr pa) (hg:hearL (E d).2 (R d) k a ph=g) (ho:pOut E over B l d g.st.ph g.st.pr g.st.at_=o) :
  Calls Tryz.prog 190 #[.pointer (some ⟨s,0,none⟩),frV f id d k a y ph pr pa] w fun e w'=>∃ v,e=.returned (.tuple #[v,ev A o.c])∧AnsV w' v o.c id f d a g∧SP w0 w' s j mb p q id R n o.e o.over o.b o.l∧Kept (In3 j p q) w w'∧∀ a c,v=.slice (some a) 1 c→w.heap.size≤a.block:=by
 obtain ⟨W,HW⟩:∃ W,Hid (w.alloc (.cells #[.int .i64 f,.int .i64 id,.int .i64 d,.int .i64 k,.int .i64 a,.bool y,.int .i64 ph,.int .i64 pr,.int .i64 pa] 125)=W):=⟨_,rfl⟩
 have HB:Hid (Below w.heap.size w W):=by rw [← HW.out]; exact (Below.refl _ _).alloc (Nat.le_refl _) _
 have HR:Hid (W.heap[w.heap.size]? = some (.cells #[.int .i64 f,.int .i64 id,.int .i64 d,.int .i64 k,.int .i64 a,.bool y,.int .i64 ph,.int .i64 pr,.int .i64 pa] 125 (0,0))):=by rw [← HW.out]; exact heap_alloc_new w _
 obtain ⟨c0,c1,c2,c3,c4,c5,c6,c7,c8⟩:=nine HR.out
 have hW:=HW.out
 have HF:Hid ((if frOk f id d k a ph pr pa then 0 else 2)=0):=if_pos hf
 have hd:d<6:=by have:=hf.2.2.1; omega
 have hk17:1≤k∧k≤7:=by have:=hf.2.2.2.1; omega
 have HS:=hid h
 have HE:=hid hE
 have HN:=hid hn
 obtain ⟨⟨sh,sp,sa⟩,HEd⟩:∃ x,Hid ((E d).2=x):=⟨_,rfl⟩
 rw [HEd.out] at hg
 have HG:=hid hg
 have HO:=hid ho
 have HEW:=hid ((hE.later h.jp.bel).later HB.out)
 clear h hf hn hg ho hE
 go_enter Tryz.func190,Tryz.ntmps190
 go_wp2_with (go_at_call 214; (with_reducible refine (wcheck_e A f id d k a y ph pr pa 0 _ HEW.out HF.out).mono ?_); rintro e w1 ⟨rfl,hb1⟩; unfold ev; have HB1:=hid (HB.out.trans (hb1.mono HB.out.size)); obtain ⟨x0,x1,x2⟩:=(HS.out.sr.later HB1.out).cells; have HR1:=hid ((hb1.block _ (row_ltJ HR.out)).trans HR.out); obtain ⟨c0,c1,c2,c3,c4,c5,c6,c7,c8⟩:=nine HR1.out; clear hb1)
 go_region
 all_goals go_upto_region 13 with fail
 have HS1:=hid (HS.out.later HB1.out)
 have hbs:=row_ltJ HR1.out
 obtain ⟨V,HV⟩:∃ V,Hid (w1.alloc (.cells #[.int .i64 0,.int .i64 0,.int .i64 0] 80)=V):=⟨_,rfl⟩
 have HBV:Hid (Below w1.heap.size w1 V):=by rw [← HV.out]; exact (Below.refl _ _).alloc (Nat.le_refl _) _
 have HRV:Hid (V.heap[w1.heap.size]? = some (.cells #[.int .i64 0,.int .i64 0,.int .i64 0] 80 (0,0))):=by rw [← HV.out]; exact heap_alloc_new w1 _
 have HFV:Hid (V.heap[w.heap.size]? = some (.cells #[.int .i64 f,.int .i64 id,.int .i64 d,.int .i64 k,.int .i64 a,.bool y,.int .i64 ph,.int .i64 pr,.int .i64 pa] 125 (0,0))):=(HBV.out.block _ hbs).trans HR1.out
 have HSV:=hid (HS1.out.later HBV.out)
 have hV:=HV.out
 have vx:=HSV.out.sr.cells.1
 have vc:V.cell? ⟨w.heap.size,2,none⟩=some (.int .i64 (d:Int)):=(nine HFV.out).2.2.1
 have hsl:=HS1.out.sr.lts.1
 have ns1:s≠w1.heap.size:=Nat.ne_of_lt hsl
 have nf1:w.heap.size≠w1.heap.size:=Nat.ne_of_lt hbs
 go_cut [7,8] from 13 (fun s7 s8 wx=>s8=.nilIface∧∃ g1,s7=.pointer (some ⟨g1,0,none⟩)∧FrSt w wx w.heap.size g1 f id d k a y ph pr pa sh sp sa)
 case first =>
  go_region_held3 (fun W=>W.cell? ⟨s,0,none⟩=some (.pointer (some ⟨j,0,none⟩))∧W.cell? ⟨w.heap.size,2,none⟩=some (.int .i64 (d:Int))) (first|go_keep|exact ⟨cell3_other (by assumption) ns1,cell3_other (by assumption) nf1⟩) (first|(go_at_call 160; (with_reducible refine (get_is j p d E over sh sp sa _ HS1.out.jp.jr.drew.drew hd HEd.out).mono ?_); rintro e w3 ⟨rfl,hb3⟩; have q1:=cell_later hb3 x0; have q2:=cell_later hb3 c2; have HFrS:=hid (And.intro (HB1.out.drew.drew.trans (hb3.mono HB1.out.size)) ((hb3.block _ hbs).trans HR1.out)); have hsz:=hb3.size; have hb3s:=row_ltJ HFrS.out.2; clear hb3)|(go_at_call 160; (with_reducible refine (get_is j p d E over sh sp sa _ HSV.out.jp.jr.drew.drew hd HEd.out).mono ?_); rintro e w3 ⟨rfl,hb3⟩; have q1:=cell_later hb3 vx; have q2:=cell_later hb3 vc; have HR3:=hid ((hb3.block _ (row_ltJ HRV.out)).trans HRV.out); have HFrS:=hid (And.intro ((HB1.out.trans (HBV.out.mono HB1.out.size)).drew.drew.trans (hb3.mono (Nat.le_trans HB1.out.size HBV.out.size))) ((hb3.block _ (row_ltJ HFV.out)).trans HFV.out)); have c30:w3.cell? ⟨w1.heap.size,0,none⟩=some (.int .i64 0):=cell_of_row _ _ 0 _ _ _ HR3.out; have c31:w3.cell? ⟨w1.heap.size,1,none⟩=some (.int .i64 0):=cell_of_row _ _ 1 _ _ _ HR3.out; have c32:w3.cell? ⟨w1.heap.size,2,none⟩=some (.int .i64 0):=cell_of_row _ _ 2 _ _ _ HR3.out; have z30:=frozen_of_row _ _ 0 _ _ HR3.out; have z31:=frozen_of_row _ _ 1 _ _ HR3.out; have z32:=frozen_of_row _ _ 2 _ _ HR3.out; clear hb3))
  all_goals go_wp2_with fail
  all_goals go_meet
  ·exact ⟨rfl,_,rfl,⟨HFrS.out.1.alloc HFrS.out.1.size _,(Below.heap_alloc w3 _ _ hb3s).trans HFrS.out.2,heap_alloc_new w3 _,Nat.le_refl _,hb3s⟩⟩
  ·exact ⟨rfl,_,rfl,⟨((HFrS.out.1.setCell (Nat.le_of_lt hbs) _).setCell (Nat.le_of_lt hbs) _).setCell (Nat.le_of_lt hbs) _,by rw [heap_setCell_other _ _ _ _ nf1,heap_setCell_other _ _ _ _ nf1,heap_setCell_other _ _ _ _ nf1]; exact HFrS.out.2,set3 HR3.out _ _ _,Nat.le_refl _,hbs⟩⟩
 obtain ⟨rfl,g1,rfl,hfs⟩:=hcut
 clear HBV HRV HFV HSV hV HV vx vc hsl ns1 nf1 hbs HS1 HR1 HB1 x0 x1 x2 c0 c1 c2 c3 c4 c5 c6 c7 c8 HR HB hW HW HEW HF
 rename_i wc
 have HFrS:=hid hfs
 clear hfs
 generalize wc=w2 at *
 obtain ⟨c0,c1,c2,c3,c4,c5,c6,c7,c8⟩:=nine HFrS.out.fr
 obtain ⟨s0,s1,s2⟩:=HFrS.out.cells
 have HSR:=hid (HS.out.sr.later HFrS.out.bel)
 obtain ⟨⟨th,tp,ta⟩,gk,gy⟩:=g
 simp only at HO
 go_wp2_with (go_at_call 215; (with_reducible refine (step_is s j mb n d a ph sh sp sa (id:Int) (f:Int) (id:Int) (pr:Int) (pa:Int) y R _ k ⟨⟨th,tp,ta⟩,gk,gy⟩ HSR.out hd hk17 HG.out).mono ?_); rintro e w3 ⟨rfl,hb3⟩; simp only)
 have HF3:=hid (HFrS.out.later hb3)
 clear hb3
 obtain ⟨X,HX⟩:∃ X,Hid (w3.alloc (.cells #[.int .i64 (th:Int),.int .i64 (tp:Int),.int .i64 (ta:Int)] 80)=X):=⟨_,rfl⟩
 obtain ⟨g2,Hg2⟩:∃ n,Hid (w3.heap.size=n):=⟨_,rfl⟩
 have HFX:Hid (FrSt w X w.heap.size g2 f id d k a y ph pr pa th tp ta):=by
  rw [← HX.out,← Hg2.out]
  exact ⟨HF3.out.bel.alloc HF3.out.bel.size _,(Below.heap_alloc w3 _ _ (row_ltJ HF3.out.fr)).trans HF3.out.fr,heap_alloc_new w3 _,Nat.le_refl _,row_ltJ HF3.out.fr⟩
 rw [HX.out,Hg2.out]
 clear HF3 HFrS HX Hg2 c0 c1 c2 c3 c4 c5 c6 c7 c8 s0 s1 s2 HSR
 have HSX:=hid (HS.out.later HFX.out.bel)
 obtain ⟨x0,x1,x2⟩:=HSX.out.sr.cells
 have c2:=(nine HFX.out.fr).2.2.1
 obtain ⟨s0,s1,s2⟩:=HFX.out.cells
 have HNF:Hid (∀ x,w.heap.size≤x→¬ In3 j p q x):=fun x hx e=>by
  obtain ⟨_,_,e1,e2,e3⟩:=HS.out.lts
  unfold In3 at e; omega
 have HNG:Hid (¬ In3 j p q g2):=HNF.out _ (Nat.le_of_lt HFX.out.lg)
 go_cut [12] from 13 (fun s12 wx=>s12=ev A o.c∧wx.heap[w.heap.size]? = some (.cells #[.int .i64 f,.int .i64 id,.int .i64 d,.int .i64 k,.int .i64 a,.bool y,.int .i64 ph,.int .i64 pr,.int .i64 pa] 125 (0,0)) ∧
  wx.heap[g2]? = some (.cells #[.int .i64 (th:Int),.int .i64 (tp:Int),.int .i64 (ta:Int)] 80 (0,0))∧SP w0 wx s j mb p q id R n o.e o.over o.b o.l∧Kept (In3 j p q) w wx)
 case first =>
  go_region_held3 (fun W=>W.cell? ⟨s,0,none⟩=some (.pointer (some ⟨j,0,none⟩))∧W.cell? ⟨w.heap.size,2,none⟩=some (.int .i64 (d:Int))∧W.cell? ⟨g2,0,none⟩=some (.int .i64 (th:Int))∧W.cell? ⟨g2,1,none⟩=some (.int .i64 (tp:Int))∧W.cell? ⟨g2,2,none⟩=some (.int .i64 (ta:Int))) (go_keep) (first|(go_at_call 216; (with_reducible refine (jput_any (d:Int) (th:Int) (tp:Int) (ta:Int) o HO.out HSX.out.jp.drew HE.out HN.out).mono ?_); rintro e w5 ⟨rfl,hj5,hk5⟩; have q1:=keptCell hk5 x0 HSX.out.ns; have q2:=keptCell hk5 c2 (HNF.out _ (Nat.le_refl _)); have q3:=keptCell hk5 s0 HNG.out; have q4:=keptCell hk5 s1 HNG.out; have q5:=keptCell hk5 s2 HNG.out; have HJ5:=hid hj5; have HK5:=hid hk5; clear hj5 hk5))
  all_goals go_wp2_with fail
  all_goals go_meet
  all_goals exact ⟨rfl,HK5.out.row HFX.out.fr (HNF.out _ (Nat.le_refl _)),HK5.out.row HFX.out.st HNG.out,HSX.out.drew.turn HJ5.out HK5.out,(Kept.of_below HFX.out.bel).trans ((Kept.of_below (Below.refl _ _).drew).trans HK5.out)⟩
 obtain ⟨rfl,hr1,hr2,hs6,hk6⟩:=hcut
 clear HSX x0 x1 x2 c2 s0 s1 s2 HFX HNG HO HG
 rename_i wc
 have HR6:=hid hr1
 have HT6:=hid hr2
 have HS6:=hid hs6
 have HK6:=hid hk6
 clear hr1 hr2 hs6 hk6
 generalize wc=w6 at *
 obtain ⟨oc,oe,oo,ob,ol⟩:=o
 simp only at HS6 HK6 ⊢
 cases oc with
 | succ c =>
  unfold ev
  go_wp2_with fail
  go_ret2
  exact ⟨.slice none 0 0,rfl,by unfold AnsV; rw [if_neg (fun h=>by cases h.1)],HS6.out,HK6.out,fun a c hv=>by cases hv⟩
 | zero =>
  unfold ev
  by_cases hgk:gk=0
  ·subst hgk
   go_wp2_with fail
   go_ret2
   exact ⟨.slice none 0 0,rfl,by unfold AnsV; rw [if_neg (fun h=>h.2 rfl)],HS6.out,HK6.out,fun a c hv=>by cases hv⟩
  ·have hgi:¬ (gk:Int)=0:=by omega
   obtain ⟨x0,x1,x2⟩:=HS6.out.sr.cells
   obtain ⟨c0,c1,c2,c3,c4,c5,c6,c7,c8⟩:=nine HR6.out
   have s0:w6.cell? ⟨g2,0,none⟩=some (.int .i64 (th:Int)):=by rw [cell_of_row _ _ _ _ _ _ HT6.out]; rfl
   have s1:w6.cell? ⟨g2,1,none⟩=some (.int .i64 (tp:Int)):=by rw [cell_of_row _ _ _ _ _ _ HT6.out]; rfl
   have s2:w6.cell? ⟨g2,2,none⟩=some (.int .i64 (ta:Int)):=by rw [cell_of_row _ _ _ _ _ _ HT6.out]; rfl
   go_wp2_with fail
   go_region
   all_goals go_wp2_with fail
   all_goals go_ret2
   all_goals refine ⟨_,rfl,?_,HS6.out.later ((Below.refl _ _).alloc (Nat.le_refl _) _).drew,HK6.out.trans (Kept.of_below ((Below.refl _ _).alloc (Nat.le_refl _) _).drew),fun a c hv=>by cases hv; exact HK6.out.size⟩
   all_goals unfold AnsV
   all_goals rw [if_pos ⟨rfl,hgk⟩]
   all_goals exact ⟨_,_,rfl,heap_alloc_new w6 _⟩
end Go.Proofs.YtaehdgemkafinaaGreatDoor
namespace Go.Proofs.YtaehdgemkafinaaGreatDoor
structure PN where
 R:Nat→Bool
 B:ByteArray
 l:Int
 over:Bool
 ld:Nat→Option (Int×PL)
structure PX where
 nd:Nat→PN
 br:Nat→Nat→Bool
 fly:List F9
 evs:List E3
def dlN (N:PN):Nat→Nat×St:=dealL N.B.data.toList
def stN (N:PN) (d:Nat):St:=(dlN N d).2
def upN (N:PN):Bool:=N.l != -2
def fallN (N:PN):PN:={ N with l:=-2,ld:=fun _=>none }
def setLd (N:PN) (d:Nat) (x:Int×PL):PN:={ N with ld:=fun e=>if e=d then some x else N.ld e }
def setNd (V:PX) (i:Nat) (N:PN):PX:={ V with nd:=fun k=>if k=i then N else V.nd k }
def sendX (V:PX) (L:List F9):PX:={ V with fly:=V.fly ++ L }
def gHN (N:PN) (f:F9):HOut:=hearL (stN N f.d.toNat) (N.R f.d.toNat) f.k.toNat f.a.toNat f.ph.toNat
def oHN (N:PN) (f:F9):POut:=pOut (dlN N) N.over N.B N.l f.d.toNat (gHN N f).st.ph (gHN N f).st.pr (gHN N f).st.at_
def hearN (N:PN) (f:F9):PN:=if (oHN N f).c=6 then fallN { N with B:=(oHN N f).b,over:=(oHN N f).over } else { N with B:=(oHN N f).b,l:=(oHN N f).l,over:=(oHN N f).over }
def ansN (id:Nat) (N:PN) (f:F9):List F9:=if (oHN N f).c=0∧(gHN N f).k≠0 then [⟨id,f.f,f.d,(gHN N f).k,f.a,(gHN N f).yes,(gHN N f).st.ph,(gHN N f).st.pr,(gHN N f).st.at_⟩] else []
def noteE (E:List E3) (i d was is:Nat):List E3:=if is≠was∧finB is=true∧E.length<500 then E ++ [⟨i,d,is⟩] else E
def hearX (V:PX) (i:Nat) (f:F9):PX:={ setNd V i (hearN (V.nd i) f) with evs:=noteE V.evs i f.d.toNat (stN (V.nd i) f.d.toNat).ph (stN (hearN (V.nd i) f) f.d.toNat).ph }
def leadX (zs:List Int) (V:PX) (i d:Nat) (f:F9):PX:=match (V.nd i).ld d with
 | none=>V
 | some x=>setNd V i (setLd (V.nd i) d (x.1,(phear zs i d x.1 x.2 f).1))
def leadO (zs:List Int) (V:PX) (i d:Nat) (f:F9):List F9:=match (V.nd i).ld d with
 | none=>[]
 | some x=>outL i d x.1 zs.length (phear zs i d x.1 x.2 f).2
def isAns (k:Int):Bool:=decide (k=2 ∨ k=4 ∨ k=6)
def arriveX (zs:List Int) (V:PX) (f:F9):PX:=if isAns f.k=true then leadX zs V f.t.toNat f.d.toNat f else hearX V f.t.toNat f
def arriveO (zs:List Int) (V:PX) (f:F9):List F9:=if isAns f.k=true then leadO zs V f.t.toNat f.d.toNat f else ansN f.t.toNat (V.nd f.t.toNat) f
def brX (V:PX) (a b:Nat):Bool:=V.br (min a b) (max a b)
def reachB (V:PX) (f:F9):Bool:=upN (V.nd f.t.toNat) && (f.f == f.t || !brX V f.f.toNat f.t.toNat)
def takeX (V:PX) (k:Nat):PX:={ V with fly:=V.fly.eraseIdx k }
def deliverX (zs:List Int) (V:PX) (k:Nat) (f:F9):PX:=if reachB V f=true then sendX (arriveX zs (takeX V k) f) (arriveO zs (takeX V k) f) else takeX V k
def aboveN (N:PN) (d:Nat):Int:=match N.ld d with
 | none=>(stN N d).pr
 | some x=>max ((stN N d).pr:Int) x.2.seen
def attemptX (n s:Nat) (above:Int):Int:=above+1+((s:Int)+n - (above+1) % n) % n
def electF (s d:Nat) (a:Int):F9:=⟨s,s,d,3,a,false,0,0,0⟩
def electL (s d:Nat) (a:Int) (n:Nat):List F9:=(toL s d 3 a 0 n).eraseIdx s
def hearsL (zs:List Int) (s d:Nat) (a:Int):PL→List F9→PL×List F9
 | P,[]=>(P,[])
 | P,f :: r=>((hearsL zs s d a (phear zs s d a P f).1 r).1,outL s d a zs.length (phear zs s d a P f).2 ++ (hearsL zs s d a (phear zs s d a P f).1 r).2)
def tryX (zs:List Int) (V:PX) (s d:Nat) (a:Int):PX :=
 if 1048576<a then V
 else if upN (hearN (V.nd s) (electF s d a))=false then hearX V s (electF s d a)
 else sendX (setNd (hearX V s (electF s d a)) s (setLd (hearN (V.nd s) (electF s d a)) d (a,(hearsL zs s d a P0 (ansN s (V.nd s) (electF s d a))).1)))
  (electL s d a zs.length ++ (hearsL zs s d a P0 (ansN s (V.nd s) (electF s d a))).2)
def tickD (zs:List Int) (V:PX) (s d:Nat):PX :=
 @ite PX (stN (V.nd s) d=St.zero) (stEq _ _) V (if finB (stN (V.nd s) d).ph=true then sendX V (toL s d 7 (stN (V.nd s) d).pr (stN (V.nd s) d).ph zs.length)
 else tryX zs V s d (attemptX zs.length s (aboveN (V.nd s) d)))
def tickX (zs:List Int) (s:Nat):Nat→Nat→PX→PX
 | 0,_,V=>V
 | k+1,d,V=>if upN ((tickD zs V s d).nd s)=true then tickX zs s k (d+1) (tickD zs V s d) else tickD zs V s d
def heldX (n:Nat) (V:PX) (d:Nat):Bool:=(List.range n).any fun i=>((V.nd i).ld d).isSome || !(decide ((stN (V.nd i) d).ph=0∧(stN (V.nd i) d).pr=0∧(stN (V.nd i) d).at_=0))
def beginX (zs:List Int) (V:PX) (s d:Nat):PX:=sendX (setNd V s (setLd (V.nd s) d (0,P0))) (toL s d 1 0 0 zs.length)
def refuseX (V:PX) (s d:Nat):PX:=setNd V s { V.nd s with R:=updR (V.nd s).R d }
def twiceX (V:PX) (k:Nat) (f:F9):PX:={ V with fly:=V.fly.take k ++ f :: V.fly.drop k }
def linkX (V:PX) (a b:Nat) (whole:Bool):PX:={ V with br:=fun x y=>if x=min a b∧y=max a b then !whole else V.br x y }
def cutX (V:PX) (s:Nat) (n:Int):PX:=setNd V s { V.nd s with l:=cL (V.nd s).l n }
def downX (V:PX) (s:Nat):PX:=setNd V s (fallN (V.nd s))
def upX (V:PX) (s:Nat):PX:=setNd V s { V.nd s with l:=-1,over:=false,R:=fun _=>false }
def newN (n:Nat):PN:=⟨fun _=>false,zeroB n,-1,false,fun _=>none⟩
def newX:PX:=⟨fun _=>newN 512,fun _ _=>false,[],[]⟩
structure NI (n:Nat) (N:PN) (m:Nat):Prop where
 gd:∀ d,d<6→(dlN N d).2.good
 nm:∀ d,d<6→(dlN N d).1≤m
 sz:N.B.size=512
 up:N.l≠-2→N.over=false
 l0:-2≤N.l
 l1:N.l≤9223372036854775807
 ld:∀ d x,N.ld d=some x→N.l≠-2∧(0≤x.1∧x.1≤1048576)∧x.2.stt<4∧(0≤x.2.seen∧x.2.seen≤1048576)∧PW n x.2
structure FI (n:Nat) (f:F9):Prop where
 f0:0≤f.f
 f1:f.f<n
 t0:0≤f.t
 t1:f.t<n
 ok:frOk f.f f.t f.d f.k f.a f.ph f.pr f.pa
structure XI (zs:List Int) (V:PX) (m:Nat):Prop where
 he:errW zs=0
 nd:∀ i,i<zs.length→NI zs.length (V.nd i) m
 fr:∀ f,f∈V.fly→FI zs.length f
 fl:V.fly.length≤1000 * m
 ev:V.evs.length≤500
theorem put_wellB {B:ByteArray} {over:Bool} {l:Int} {m d:Nat} {s:St} {o:POut} (hB:216≤B.size) (h:Well B over l m) (hm:m<4000000000) (hd:d<6) (hs:s.good) (ho:pOut (dealL B.data.toList) over B l d s.ph s.pr s.at_=o) :
  o.e=dealL o.b.data.toList∧Well o.b o.over o.l (m+1)∧(∀ e,e≠d→dealL o.b.data.toList e=dealL B.data.toList e)∧((o.c=0∧(dealL o.b.data.toList d).2=s) ∨ (o.c=6∧dealL o.b.data.toList d=dealL B.data.toList d)):=by
 subst ho
 unfold pOut
 cases over with
 | true =>
  rw [if_pos rfl]
  exact ⟨rfl,h.mono (Nat.le_succ _),fun _ _=>rfl,.inr ⟨rfl,rfl⟩⟩
 | false =>
  rw [if_neg (by decide),if_pos ⟨by omega,good_fits hs⟩]
  simp only [Int.toNat_natCast]
  have hn:=h.num d hd
  have hp:=h.pow rfl
  rcases put_out (s:=s) hB hd (fits_of (good_fits hs)) (by omega) hp with ⟨c,ov,ee,hl,hs2,hot,hnn⟩|⟨c,ov,hl,hdd⟩
  ·refine ⟨ee,⟨fun e he=>?_,fun e he=>?_,fun _=>hl⟩,hot,.inl ⟨c,hs2⟩⟩
   ·by_cases g:e=d
    ·rw [g,hs2]; exact hs
    ·rw [hot e g]; exact h.good e he
   ·by_cases g:e=d
    ·rw [g]; exact Nat.le_trans hnn (Nat.succ_le_succ hn)
    ·rw [hot e g]; have:=h.num e he; omega
  ·refine ⟨?_,⟨fun e he=>by rw [hdd]; exact h.good e he,fun e he=>by rw [hdd]; have:=h.num e he; omega,fun g=>by rw [ov] at g; cases g⟩,fun e _=>by rw [hdd],.inr ⟨c,by rw [hdd]⟩⟩
   rw [hdd]
   revert c
   unfold putIn
   split
   ·intro c; cases c
   ·split
    ·intro c; cases c
    ·split
     ·intro c; cases c
     ·intro _; rfl
theorem wOut_l {B s:ByteArray} {l:Int} {a:Nat} (h0:-2≤l) (h1:l≤9223372036854775807):-2≤(wOut B s l a).l∧(wOut B s l a).l≤9223372036854775807:=⟨wL_ge _ _ _ _ h0,wL_le _ _ _ _ h1⟩
theorem fill3_l {B:ByteArray} {l:Int} {k n:Nat} {s:St} (h0:-2≤l) (h1:l≤9223372036854775807):-2≤(fill3 B l k n s).l∧(fill3 B l k n s).l≤9223372036854775807:=by
 have a1:-2≤(fill1 B l k).l∧(fill1 B l k).l≤9223372036854775807:=by
  unfold fill1
  split
  ·exact ⟨h0,h1⟩
  ·split
   ·exact ⟨h0,h1⟩
   ·exact wOut_l h0 h1
 have a2:-2≤(fill2 B l k n s).l∧(fill2 B l k n s).l≤9223372036854775807:=by
  unfold fill2
  split
  ·exact wOut_l a1.1 a1.2
  ·exact a1
 unfold fill3
 split
 ·exact wOut_l a2.1 a2.2
 ·exact a2
theorem pOut_more {B:ByteArray} {l:Int} {m d:Nat} {s:St} {o:POut} (hB:216≤B.size) (h:Well B false l m) (hm:m<4000000000) (hd:d<6) (hs:s.good) (h0:-2≤l) (h1:l≤9223372036854775807) (ho:pOut (dealL B.data.toList) false B l d s.ph s.pr s.at_=o) :
  o.b.size=B.size∧(-2≤o.l∧o.l≤9223372036854775807)∧((o.c=0∧o.over=false∧o.l≠-2) ∨ (o.c=6∧o.over=true∧o.l=-2)):=by
 subst ho
 unfold pOut
 rw [if_neg (by decide),if_pos ⟨by omega,good_fits hs⟩]
 simp only [Int.toNat_natCast]
 have hn:=h.num d hd
 refine ⟨putIn_size _,?_,?_⟩
 ·unfold putIn
  split
  ·exact ⟨h0,h1⟩
  ·split
   ·exact ⟨h0,h1⟩
   ·split
    ·exact fill3_l h0 h1
    ·exact fill3_l h0 h1
 ·rcases put_out (s:=s) hB hd (fits_of (good_fits hs)) (by omega) (h.pow rfl) with ⟨c,ov,-,hl,-⟩|⟨c,ov,hl,-⟩
  ·exact .inl ⟨c,ov,hl⟩
  ·exact .inr ⟨c,ov,hl⟩
structure HF (n:Nat) (N:PN) (f:F9) (m:Nat):Prop where
 ni:NI n (hearN N f) (m+1)
 c:(oHN N f).c=0 ∨ (oHN N f).c=6
 up:upN (hearN N f)=decide ((oHN N f).c=0)
 e:(oHN N f).e=dlN (hearN N f)
 other:∀ e,e≠f.d.toNat→dlN (hearN N f) e=dlN N e
 yes:(oHN N f).c=0→stN (hearN N f) f.d.toNat=(gHN N f).st
 no:(oHN N f).c=6→dlN (hearN N f) f.d.toNat=dlN N f.d.toNat
 ld:(oHN N f).c=0→(hearN N f).ld=N.ld
 good:(gHN N f).st.good
 may:mayN (stN N f.d.toNat).ph (gHN N f).st.ph
theorem hearN_hf {n m:Nat} {N:PN} {f:F9} (h:NI n N m) (hu:N.l≠-2) (hf:FI n f) (hm:m<4000000000):HF n N f m:=by
 have hov:=h.up hu
 have hd:f.d.toNat<6:=by have:=hf.ok.2.2.1; omega
 have ha:f.a.toNat≤1048576:=by have:=hf.ok.2.2.2.2.1; omega
 have hp:f.ph.toNat≤5:=by have:=hf.ok.2.2.2.2.2.1; omega
 have hg:=hear_good (stN N f.d.toNat) (N.R f.d.toNat) f.k.toNat f.a.toNat f.ph.toNat (h.gd _ hd) ha hp
 have hgg:(gHN N f).st.good:=hg.1
 have hw:Well N.B false N.l m:=⟨h.gd,h.nm,fun _=>hu⟩
 have hB:216≤N.B.size:=by have:=h.sz; omega
 obtain ⟨o,ho⟩:∃ o,oHN N f=o:=⟨_,rfl⟩
 have ho2:pOut (dealL N.B.data.toList) false N.B N.l f.d.toNat (gHN N f).st.ph (gHN N f).st.pr (gHN N f).st.at_=o:=by rw [← ho,← hov]; rfl
 obtain ⟨p1,p2,p3,p4⟩:=put_wellB hB hw hm hd hgg ho2
 obtain ⟨q1,q2,q3⟩:=pOut_more hB hw hm hd hgg h.l0 h.l1 ho2
 rcases q3 with ⟨c,ov,hl⟩|⟨c,ov,hl⟩
 ·have e:hearN N f={ N with B:=o.b,l:=o.l,over:=o.over }:=by unfold hearN; rw [ho,if_neg (by omega)]
  rcases p4 with ⟨-,p4⟩|⟨c2,-⟩
  ·rw [ov] at p2
   refine ⟨?_,.inl (by rw [ho]; exact c),?_,?_,?_,?_,?_,?_,hgg,hg.2.2.2⟩
   ·rw [e]
    refine ⟨p2.good,p2.num,q1.trans h.sz,fun _=>ov,q2.1,q2.2,fun d x hx=>?_⟩
    have:=h.ld d x hx
    exact ⟨hl,this.2⟩
   ·rw [e,ho,c]; unfold upN; simpa using hl
   ·rw [e,ho]; exact p1
   ·rw [e]; exact p3
   ·intro _; rw [e]; exact p4
   ·intro g; rw [ho,c] at g; cases g
   ·intro _; rw [e]
  ·rw [c] at c2; cases c2
 ·have e:hearN N f=fallN { N with B:=o.b,over:=o.over }:=by unfold hearN; rw [ho,if_pos c]
  rcases p4 with ⟨c2,-⟩|⟨-,p4⟩
  ·rw [c] at c2; cases c2
  ·refine ⟨?_,.inr (by rw [ho]; exact c),?_,?_,?_,?_,?_,?_,hgg,hg.2.2.2⟩
   ·rw [e]
    exact ⟨p2.good,p2.num,q1.trans h.sz,fun g=>(g rfl).elim,by show -2≤(-2:Int); omega,by show (-2:Int)≤_; omega,fun d x hx=>by cases hx⟩
   ·rw [e,ho,c]; rfl
   ·rw [e,ho]; exact p1
   ·rw [e]; exact p3
   ·intro g; rw [ho,c] at g; cases g
   ·intro _; rw [e]; exact p4
   ·intro g; rw [ho,c] at g; cases g
end Go.Proofs.YtaehdgemkafinaaGreatDoor
namespace Go.Proofs.YtaehdgemkafinaaGreatDoor
open Go.RowKit
theorem own_form {w:World} {base n:Nat} {v:Value} {L:List F9} (h:w.ownsRow base 125 9 v L.length (frCells L)) (hn:L.length=n) (h0:0<n):∃ g cap cur,v=.slice (some ⟨g,0,none⟩) n cap∧base≤g∧w.heap[g]? = some (.cells cur 125 (0,0))∧n≤cap∧cap≤maxLen∧cur.size=cap * 9∧cur.toList.take (n * 9)=frCells L:=by
 subst hn
 rcases h.2 with ⟨-,h0'⟩|⟨g,cap,cur,h1,h2,h3,h4,h5,h6,h7⟩
 ·omega
 ·exact ⟨g,cap,cur,h1,h2,h3,h4,h5,h6,h7⟩
theorem del_frs1 (base g cap k n:Nat) (cur:Array Value) (L:List F9) (w:World) (hg:w.heap[g]? = some (.cells cur 125 (0,0))) (hb:base≤g) (hn:L.length=n) (h1:n≤cap) (h2:cap≤maxLen) (hs:cur.size=cap * 9) (ht:cur.toList.take (n * 9)=frCells L) (hk:k<n) :
  Calls Tryz.prog 159 #[.slice (some ⟨g,0,none⟩) n cap,.int .i64 (k:Int),.int .i64 ((k:Int)+1)] w fun e w'=>e=.returned (.slice (some ⟨g,0,none⟩) (n - 1) cap)∧w'.ownsRow base 125 9 (.slice (some ⟨g,0,none⟩) (n - 1) cap) (n - 1) (frCells (L.eraseIdx k))∧Kept (In1 g) w w':=by
 have h:=del_frs base g cap k (k+1) n cur L w hg hb hn h1 h2 hs ht hk rfl
 rw [show ((k+1:Nat):Int)=(k:Int)+1 by omega] at h
 exact h
theorem wrap7 {k:Nat} (h:k<7):IntKind.i64.wrap ((k:Int)+1)=(k:Int)+1:=by
 have:k=0 ∨ k=1 ∨ k=2 ∨ k=3 ∨ k=4 ∨ k=5 ∨ k=6:=by omega
 rcases this with rfl|rfl|rfl|rfl|rfl|rfl|rfl <;> decide
def electsL (s:Nat) (d a:Int) (n:Nat):List F9:=(toL s d 3 a 0 n).eraseIdx s
theorem ldStart1_any {w:World} {lb b cap id:Nat} {deal att:Int} {zs:List Int} {P:PL} (hn:zs.length≤7) (hi:id<zs.length) (ha:att≠0) (h:LD w lb b cap id deal att zs P) :
  Calls Tryz.prog 105 #[.pointer (some ⟨lb,0,none⟩)] w fun e w'=>∃ v,e=.returned v∧FrB w.heap.size w' v (electsL id deal att zs.length)∧Below w.heap.size w w':=by
 obtain ⟨c0,c1,c2,-⟩:=h.cells
 have H:=hid h
 have hlb:=row_ltJ h.row
 have ha':(att == 0)=false:=beq_eq_false_iff_ne.2 ha
 obtain ⟨L,HL⟩:∃ L,Hid (toL id deal 3 att 0 zs.length=L):=⟨_,rfl⟩
 obtain ⟨n,hnn⟩:∃ n,Hid (zs.length=n):=⟨_,rfl⟩
 have HLen:Hid (L.length=n):=by rw [← HL.out,← hnn.out]; exact toL_length id deal 3 att 0 zs.length
 have HEl:Hid (electsL id deal att zs.length=L.eraseIdx id):=by rw [← HL.out]; exact rfl
 rw [HEl.out]
 rw [hnn.out] at hi
 have HWr:=hid (wrap7 (show id<7 by have:=hnn.out; omega))
 have HTA:Hid (∀ w:World,LD w lb b cap id deal att zs P→Calls Tryz.prog 158 #[.pointer (some ⟨lb,0,none⟩),.int .i64 3,.int .i64 0] w fun e w'=>∃ g cp cur,e=.returned (.slice (some ⟨g,0,none⟩) n cp)∧(w.heap.size≤g∧w'.heap[g]? = some (.cells cur 125 (0,0))∧n≤cp∧cp≤maxLen∧cur.size=cp * 9∧cur.toList.take (n * 9)=frCells L)∧Below w.heap.size w w'):=by
  intro w hw
  refine (ldtoAll_own lb b cap id deal att zs P 3 0 w hw hn).mono ?_
  rintro e w' ⟨v,he,ho,hb⟩
  rw [HL.out] at ho
  obtain ⟨g,cp,cur,hv,hg⟩:=own_form ho HLen.out (by omega)
  exact ⟨g,cp,cur,by rw [he,hv],hg,hb⟩
 clear h
 go_enter Tryz.func105,Tryz.ntmps105
 go_wp2_with fail
 go_region_held3 (fun V=>V.cell? ⟨lb,0,none⟩=some (.int .i64 (id:Int))) (go_keep) (first|(go_at_call 158; (with_reducible refine (HTA.out _ (H.out.later (Below.refl _ _).drew)).mono ?_); rintro e w1 ⟨g,cp,cur,rfl,hg,hb⟩; have q0:=cell_later hb c0; have HO1:Hid (w.heap.size≤g):=hg.1; have HO:=hid hg.2; have HB:=hid (show Below w.heap.size w w1 from (Below.refl _ w).drew.trans hb); clear hb hg)|(go_at_call 159; rw [HWr.out]; (with_reducible refine (del_frs1 w.heap.size g cp id n cur L _ HO.out.1 HO1.out HLen.out HO.out.2.1 HO.out.2.2.1 HO.out.2.2.2.1 HO.out.2.2.2.2 hi).mono ?_); rintro e w2 ⟨rfl,ho2,hk2⟩; have HD:=hid (And.intro ho2 hk2); have q1:=keptCell hk2 q0 (fun e=>by have h1:=HO1.out; have h2:lb=g:=e; omega); clear ho2 hk2))
 all_goals go_wp2_with fail
 all_goals go_ret
 all_goals refine ⟨_,rfl,?_,HD.out.2.below HB.out.size (fun x hx=>by rw [show x=g from hx]; exact HO1.out) HB.out⟩
 all_goals
  have h1:=HD.out.1
  have e1:(L.eraseIdx id).length=n - 1:=by rw [List.length_eraseIdx_of_lt (by rw [HLen.out]; exact hi),HLen.out]
  rw [← e1] at h1 ⊢
  exact FrB.owned h1
end Go.Proofs.YtaehdgemkafinaaGreatDoor
