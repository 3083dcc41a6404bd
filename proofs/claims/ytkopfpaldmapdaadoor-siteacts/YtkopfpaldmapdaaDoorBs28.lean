/-
  On the way to SActsProof: S9.
-/
import Derived.Test.YtkopfpaldmapdaaDoorBs25
set_option maxHeartbeats 8000000
set_option maxRecDepth 100000
namespace Go.Proofs.YtkopfpaldmapdaaDoor
open Go.RowKit
theorem kept_grown {w w':World} {b:Nat} (h:w.grownBy w' (some b)):Kept (In1 b) w w':=⟨h.os,h.tape,h.output,h.size,fun k hk hs=>h.block k hk (fun e=>hs (Option.some.inj e))⟩
theorem snew_bad (A:Nat→Addr) (id:Int) (v:Value) (w:World) (hE:HeldE w A) (h:id<0 ∨ 7≤id) :
  Calls Tryd.prog 10 #[.int .i64 id,v] w fun e w'=>e=.returned (.tuple #[.pointer none,ev A 2])∧Below w.heap.size w w':=by
 have g1:w.cell? ⟨0,0,none⟩=some (.iface 189 (.pointer (some (A 1)))):=hE.g1
 clear hE
 by_cases h0:id<0
 ·clear h
  go_enter Tryd.func10,Tryd.ntmps10
  go_wp2_with fail
  go_quiet (fail)
  go_wp2
  go_ret2
  exact ⟨rfl,below_drewN (Below.refl _ _) _⟩
 ·have h7:7≤id:=by omega
  clear h
  go_enter Tryd.func10,Tryd.ntmps10
  go_wp2_with fail
  go_quiet (fail)
  go_wp2
  go_ret2
  exact ⟨rfl,below_drewN (Below.refl _ _) _⟩
theorem snew_err (A:Nat→Addr) (id:Int) (p q:Nat) (B:ByteArray) (l:Int) (c:Nat) (w:World) (h:Pl w p q B l) (hE:HeldE w A) (hB:B.size≤1000) (hc:rC B l 0 216=c+1) (h0:0≤id) (h7:id<7) :
  Calls Tryd.prog 10 #[.int .i64 id,.pointer (some ⟨p,0,none⟩)] w fun e w'=>e=.returned (.tuple #[.pointer none,.iface 189 (.pointer (some (A c)))])∧w'=w:=by
 have H:=hid h
 have HE:=hid hE
 have HC:=hid hc
 clear h hE hc
 go_enter Tryd.func10,Tryd.ntmps10
 go_wp2_with (go_at_call 39; (with_reducible refine (open_bad A p q B l c _ H.out HE.out hB HC.out).mono ?_); rintro e wx ⟨rfl,hx⟩; subst wx)
 go_ret2
 exact ⟨rfl,rfl⟩
theorem snew_ok (A:Nat→Addr) (id:Int) (p q:Nat) (B:ByteArray) (l:Int) (w:World) (h:Pl w p q B l) (hE:HeldE w A) (hB:B.size≤1000) (h6:216≤B.size) (hl:¬ l=-2) (h0:0≤id) (h7:id<7) :
  Calls Tryd.prog 10 #[.int .i64 id,.pointer (some ⟨p,0,none⟩)] w fun e w'=>∃ s j mb,e=.returned (.tuple #[.pointer (some ⟨s,0,none⟩),.nilIface])∧JR w' j p (dealL B.data.toList) false∧SR w' s j mb id (fun _=>false) 0∧Below w.heap.size w w'∧w.heap.size≤j∧j<mb∧mb<s:=by
 have H:=hid h
 have HE:=hid hE
 clear h hE
 have hmm:=@run_makeMap Tryd.prog
 go_enter Tryd.func10,Tryd.ntmps10
 go_wp2_with (go_at_call 39; (with_reducible refine (open_ok A p q B l _ H.out HE.out hB h6 hl).mono ?_); rintro e w1 ⟨j,rfl,hj,hb,hj0⟩; have HJ:=hid hj; have HB:=hid hb; have HJ0:=hid hj0; clear hj hb hj0)
 go_ret2
 have hs:(w1.alloc (.map #[] 0)).heap.size=w1.heap.size+1:=by simp
 have hb2:Below w1.heap.size w1 (w1.alloc (.map #[] 0)):=(Below.refl _ _).alloc (Nat.le_refl _) _
 have hb3:=hb2.alloc hb2.size (.cells #[.pointer (some ⟨j,0,none⟩),.int .i64 id,.map (some w1.heap.size)] 88)
 refine ⟨w1.heap.size+1,j,w1.heap.size,rfl,HJ.out.later hb3 HJ.out.lt,⟨?_,.map [],(World.ownsMap_made w1 _ _ _).alloc _,fun d _=>rfl⟩,HB.out.trans (hb3.mono HB.out.size),HJ0.out,HJ.out.lt,Nat.lt_succ_self _⟩
 have:=heap_alloc_new (w1.alloc (.map #[] 0)) (.cells #[.pointer (some ⟨j,0,none⟩),.int .i64 id,.map (some w1.heap.size)] 88)
 rw [hs] at this
 exact this
section
variable {w0 w w1 w2:World} {s j mb p q n:Nat} {id:Int} {R:Nat→Bool} {E:Nat→Nat×St} {over:Bool} {B:ByteArray} {l:Int} {A:Nat→Addr}
theorem sp_new (hb:Below w0.heap.size w0 w1) (h:Pl w1 p q B l) (hp:w0.heap.size≤p) (hq:w0.heap.size≤q) (hj:JR w2 j p E over) (hs:SR w2 s j mb id R n) (hb2:Below w1.heap.size w1 w2) (hj0:w1.heap.size≤j) (hm:j<mb) (hms:mb<s) (h0:-2≤l) (h1:l≤9223372036854775807) (hz:B.size≤1000) (h6:216≤B.size) :
  SP w0 w2 s j mb p q id R n E over B l:=by
 have e1:=row_lt h.head
 have e2:=row_lt h.row
 have e3:=hb.size
 exact ⟨jp_new hb h hp hq hj hb2 hj0 h0 h1 hz h6,hs,fun g=>by unfold In3 at g; omega,fun g=>by unfold In3 at g; omega,by omega,by omega,by omega⟩
theorem sboot_sp (h:JP w0 w j p q E over B (-1)) (hE:HeldE w0 A) (i0:0≤id) (i7:id<7) :
  Calls Tryd.prog 10 #[.int .i64 id,.pointer (some ⟨p,0,none⟩)] w fun e w'=>∃ s' j' mb',e=.returned (.tuple #[.pointer (some ⟨s',0,none⟩),.nilIface])∧SP w0 w' s' j' mb' p q id (fun _=>false) 0 (dealL B.data.toList) false B (-1)∧Below w.heap.size w w'∧w.heap.size≤j'∧w.heap.size≤s'∧w.heap.size≤mb':=by
 refine (snew_ok A id p q B (-1) w h.pl (h.held hE) h.sz h.s6 (by decide) i0 i7).mono ?_
 rintro e w' ⟨s',j',mb',rfl,hj,hs,hb,hj0,hm,hms⟩
 exact ⟨s',j',mb',rfl,sp_new h.bel h.pl h.p0 h.q0 hj hs hb hj0 hm hms (by decide) (by decide) h.sz h.s6,hb,hj0,by omega,by omega⟩
theorem sstate_is (d h1 h2 h3:Nat) (hj:JR w j p E over) (h:SR w s j mb id R n) (hd:d<6) (hs:(E d).2=⟨h1,h2,h3⟩) :
  Calls Tryd.prog 15 #[.pointer (some ⟨s,0,none⟩),.int .i64 (d:Int)] w fun e w'=>e=.returned (.tuple #[agS h1 h2 h3,.nilIface])∧Below w.heap.size w w':=by
 obtain ⟨W,HW⟩:∃ W,Hid (w.alloc (.cells #[.int .i64 0,.int .i64 0,.int .i64 0] 34)=W):=⟨_,rfl⟩
 have HB:Hid (Below w.heap.size w W):=by rw [← HW.out]; exact (Below.refl _ _).alloc (Nat.le_refl _) _
 have HR:Hid (W.heap[w.heap.size]? = some (.cells #[.int .i64 0,.int .i64 0,.int .i64 0] 34 (0,0))):=by rw [← HW.out]; exact heap_alloc_new w _
 have HJ:=hid (hj.later HB.out hj.lt)
 obtain ⟨x0,x1,x2⟩:=(h.later HB.out).cells
 have HS:=hid hs
 have hW:=HW.out
 clear hj h hs
 go_enter Tryd.func15,Tryd.ntmps15
 go_wp2_with (go_at_call 40; (with_reducible refine (get_is j p d E over h1 h2 h3 _ HJ.out hd HS.out).mono ?_); rintro e w1 ⟨rfl,hb1⟩; have HR1:=hid ((hb1.block _ (row_ltJ HR.out)).trans HR.out); have HB1:=hid (HB.out.trans (hb1.mono HB.out.size)); clear hb1; have c0:w1.cell? ⟨w.heap.size,0,none⟩=some (.int .i64 0):=(cell_of_row _ _ 0 _ _ _ HR1.out); have c1:w1.cell? ⟨w.heap.size,1,none⟩=some (.int .i64 0):=(cell_of_row _ _ 1 _ _ _ HR1.out); have c2:w1.cell? ⟨w.heap.size,2,none⟩=some (.int .i64 0):=(cell_of_row _ _ 2 _ _ _ HR1.out); have z0:=frozen_of_row _ _ 0 _ _ HR1.out; have z1:=frozen_of_row _ _ 1 _ _ HR1.out; have z2:=frozen_of_row _ _ 2 _ _ HR1.out)
 refine bodyPost_ret (results_row2 rfl _ _ w.heap.size 34 _ (0,0) _ rfl (set3 HR1.out _ _ _) Tryd.underlying34 rfl sizeState) rfl ?_
 exact ⟨rfl,((HB1.out.setCell (Nat.le_refl _) _).setCell (Nat.le_refl _) _).setCell (Nat.le_refl _) _⟩
theorem sstate_isnt (d:Int) (h:SR w s j mb id R n) (hE:HeldE w A) (hd:¬ (0≤d∧d<6)) :
  Calls Tryd.prog 15 #[.pointer (some ⟨s,0,none⟩),.int .i64 d] w fun e w'=>e=.returned (.tuple #[.agg #[.int .i64 0,.int .i64 0,.int .i64 0],ev A 2])∧Below w.heap.size w w':=by
 obtain ⟨W,HW⟩:∃ W,Hid (w.alloc (.cells #[.int .i64 0,.int .i64 0,.int .i64 0] 34)=W):=⟨_,rfl⟩
 have HB:Hid (Below w.heap.size w W):=by rw [← HW.out]; exact (Below.refl _ _).alloc (Nat.le_refl _) _
 have HR:Hid (W.heap[w.heap.size]? = some (.cells #[.int .i64 0,.int .i64 0,.int .i64 0] 34 (0,0))):=by rw [← HW.out]; exact heap_alloc_new w _
 have HE:=hid (hE.later HB.out)
 obtain ⟨x0,x1,x2⟩:=(h.later HB.out).cells
 have hW:=HW.out
 clear hE h
 go_enter Tryd.func15,Tryd.ntmps15
 go_wp2_with (go_at_call 40; (with_reducible refine (get_isnt A _ d _ HE.out hd).mono ?_); rintro e w1 ⟨rfl,hb1⟩; have HR1:=hid ((hb1.block _ (row_ltJ HR.out)).trans HR.out); have HB1:=hid (HB.out.trans (hb1.mono HB.out.size)); clear hb1; have c0:w1.cell? ⟨w.heap.size,0,none⟩=some (.int .i64 0):=(cell_of_row _ _ 0 _ _ _ HR1.out); have c1:w1.cell? ⟨w.heap.size,1,none⟩=some (.int .i64 0):=(cell_of_row _ _ 1 _ _ _ HR1.out); have c2:w1.cell? ⟨w.heap.size,2,none⟩=some (.int .i64 0):=(cell_of_row _ _ 2 _ _ _ HR1.out); have z0:=frozen_of_row _ _ 0 _ _ HR1.out; have z1:=frozen_of_row _ _ 1 _ _ HR1.out; have z2:=frozen_of_row _ _ 2 _ _ HR1.out)
 refine bodyPost_ret (results_row2 rfl _ _ w.heap.size 34 _ (0,0) _ rfl (set3 HR1.out _ _ _) Tryd.underlying34 rfl sizeState) rfl ?_
 exact ⟨rfl,((HB1.out.setCell (Nat.le_refl _) _).setCell (Nat.le_refl _) _).setCell (Nat.le_refl _) _⟩
theorem scut_jp (x:Int) (h:JP w0 w j p q E over B l) (hE:HeldE w0 A) (hx:x≤9223372036854775807) :
  Calls Tryd.prog 12 #[.pointer (some ⟨p,0,none⟩),.int .i64 x] w fun e w'=>e=.returned (ev A (cC l x))∧JP w0 w' j p q E over B (cL l x)∧Kept (In3 j p q) w w':=by
 refine (cut_pl A p q B l x w h.pl (h.held hE)).mono ?_
 rintro e w' ⟨rfl,hp,hk⟩
 have h0:=h.l0
 have h1:=h.l1
 refine ⟨rfl,h.plate hk hp ?_ ?_ rfl,hk.mono (fun k e=>.inr e)⟩
 ·unfold cL
  split
  ·exact h0
  ·split <;> omega
 ·unfold cL
  split
  ·exact h1
  ·split <;> omega
theorem has_upd {D:DataW Unit} {R:Nat→Bool} (hm:Maps.IsMap D) (hh:∀ d:Nat,d<6→Maps.has D (.int .i64 (d:Int))=R d) (x:DataW Unit) (e:Nat):∀ d:Nat,d<6→Maps.has (D.put (.int .i64 (e:Int)) x) (.int .i64 (d:Int))=updR R e d:=by
 intro d hd
 unfold updR
 by_cases g:d=e
 ·subst g
  rw [if_pos rfl]
  exact Maps.has_put_same (k:=.int .i64 (d:Int)) hm (by unfold WideAt.IsKeyLit; trivial) x
 ·rw [if_neg g,Maps.has_put_other (fun h=>g (by injection h with _ h2; omega))]
  exact hh d hd
theorem srefuse_ok (d:Nat) (hj:JR w j p E over) (h:SR w s j mb id R n) (hd:d<6) (hn:n≤1000000) :
  Calls Tryd.prog 11 #[.pointer (some ⟨s,0,none⟩),.int .i64 (d:Int)] w fun e w'=>e=.returned .nilIface∧SR w' s j mb id (updR R d) (n+1)∧Kept (In1 mb) w w'∧s≠mb:=by
 obtain ⟨⟨h1,h2,h3⟩,HS⟩:∃ x,Hid ((E d).2=x):=⟨_,rfl⟩
 have HJ:=hid hj
 have HR:=hid h
 obtain ⟨x0,x1,x2⟩:=h.cells
 have hk:=mkeyN hd
 have hne:s≠mb:=by
  obtain ⟨r,D,⟨es,cl,hb,_⟩,_⟩:=h
  intro e
  subst e
  rw [r] at hb
  cases hb
 clear hj h
 go_enter Tryd.func11,Tryd.ntmps11
 go_wp2_with (first|(go_at_call 40; (with_reducible refine (get_is j p d E over h1 h2 h3 _ HJ.out hd HS.out).mono ?_); rintro e w1 ⟨rfl,hb1⟩; have HR1:=hid (HR.out.later hb1); have HB1:=hid hb1; clear hb1; obtain ⟨D,hD,hh⟩:=HR1.out.ref; have HD:=hid hD; have HH:=hid hh; clear hD hh; obtain ⟨x0,x1,x2⟩:=HR1.out.cells; have hs1:=HR1.out.lts)|(at_mapUpdate; refine wpList_mapUpdate_own _ rfl _ _ _ 86 rfl 3 89 mlaw Tryd.underlying86 (unitElem (H:=Unit)) mb n D rfl (HD.out.alloc _) (by unfold maxLen; omega) _ _ _ rfl rfl hk _ [] unitElem_mk ?_; intro w2 hown2 hgrow2))
 go_ret
 have b2:=(Below.refl w1.heap.size w1).alloc (Nat.le_refl _) (.cells #[.int .i64 (h1:Int),.int .i64 (h2:Int),.int .i64 (h3:Int)] 34)
 have k2:=(Kept.of_below (S:=In1 mb) (HB1.out)).trans ((Kept.of_below b2).trans (kept_grown hgrow2))
 exact ⟨rfl,⟨k2.row HR.out.row hne,_,hown2,has_upd HD.out.isMap HH.out _ d⟩,k2,hne⟩
theorem srefuse_bad (d:Int) (h:SR w s j mb id R n) (hE:HeldE w A) (hd:¬ (0≤d∧d<6)) :
  Calls Tryd.prog 11 #[.pointer (some ⟨s,0,none⟩),.int .i64 d] w fun e w'=>e=.returned (ev A 2)∧Below w.heap.size w w':=by
 have HE:=hid hE
 obtain ⟨x0,x1,x2⟩:=h.cells
 clear hE h
 go_enter Tryd.func11,Tryd.ntmps11
 go_wp2_with (go_at_call 40; (with_reducible refine (get_isnt A _ d _ HE.out hd).mono ?_); rintro e w1 ⟨rfl,hb1⟩; have HB1:=hid hb1; clear hb1)
 go_ret
 exact ⟨rfl,HB1.out.alloc HB1.out.size _⟩
theorem SP.refuse (h:SP w0 w s j mb p q id R n E over B l) {d:Nat} (hr:SR w1 s j mb id (updR R d) (n+1)) (hk:Kept (In1 mb) w w1):SP w0 w1 s j mb p q id (updR R d) (n+1) E over B l :=
 ⟨h.jp.far hk (fun x e=>by unfold In1 at e; rw [e]; exact h.m0) (fun x hx e=>by unfold In1 at e; exact h.nm (e ▸ hx)),hr,h.ns,h.nm,h.sm,h.s0,h.m0⟩
end
theorem shear_bad (A:Nat→Addr) (sv:Value) (f t d k a:Int) (y:Bool) (ph pr pa:Int) (w:World) (hE:HeldE w A) (h:¬ frOk f t d k a ph pr pa) :
  Calls Tryd.prog 14 #[sv,frV f t d k a y ph pr pa] w fun e w'=>e=.returned (.tuple #[.slice none 0 0,ev A 2])∧Below w.heap.size w w':=by
 obtain ⟨W,HW⟩:∃ W,Hid (w.alloc (.cells #[.int .i64 f,.int .i64 t,.int .i64 d,.int .i64 k,.int .i64 a,.bool y,.int .i64 ph,.int .i64 pr,.int .i64 pa] 36)=W):=⟨_,rfl⟩
 have HB:Hid (Below w.heap.size w W):=by rw [← HW.out]; exact (Below.refl _ _).alloc (Nat.le_refl _) _
 have HR:Hid (W.heap[w.heap.size]? = some (.cells #[.int .i64 f,.int .i64 t,.int .i64 d,.int .i64 k,.int .i64 a,.bool y,.int .i64 ph,.int .i64 pr,.int .i64 pa] 36 (0,0))):=by rw [← HW.out]; exact heap_alloc_new w _
 obtain ⟨c0,c1,c2,c3,c4,c5,c6,c7,c8⟩:=nine HR.out
 have hW:=HW.out
 have HF:Hid ((if frOk f t d k a ph pr pa then 0 else 2)=2):=if_neg h
 have HE:=hid (hE.later HB.out)
 clear h hE
 go_enter Tryd.func14,Tryd.ntmps14
 go_wp2_with (go_at_call 42; (with_reducible refine (wcheck_e A f t d k a y ph pr pa 2 _ HE.out HF.out).mono ?_); rintro e w1 ⟨rfl,hb1⟩; unfold ev)
 go_ret2
 exact ⟨rfl,HB.out.trans (hb1.mono HB.out.size)⟩
theorem shear_other (A:Nat→Addr) (s j mb n:Nat) (id:Int) (R:Nat→Bool) (f to_ d k a:Int) (y:Bool) (ph pr pa:Int) (w:World) (h:SR w s j mb id R n) (hE:HeldE w A) (hf:frOk f to_ d k a ph pr pa) (hne:¬ to_=id) :
  Calls Tryd.prog 14 #[.pointer (some ⟨s,0,none⟩),frV f to_ d k a y ph pr pa] w fun e w'=>e=.returned (.tuple #[.slice none 0 0,ev A 3])∧Below w.heap.size w w':=by
 obtain ⟨W,HW⟩:∃ W,Hid (w.alloc (.cells #[.int .i64 f,.int .i64 to_,.int .i64 d,.int .i64 k,.int .i64 a,.bool y,.int .i64 ph,.int .i64 pr,.int .i64 pa] 36)=W):=⟨_,rfl⟩
 have HB:Hid (Below w.heap.size w W):=by rw [← HW.out]; exact (Below.refl _ _).alloc (Nat.le_refl _) _
 have HR:Hid (W.heap[w.heap.size]? = some (.cells #[.int .i64 f,.int .i64 to_,.int .i64 d,.int .i64 k,.int .i64 a,.bool y,.int .i64 ph,.int .i64 pr,.int .i64 pa] 36 (0,0))):=by rw [← HW.out]; exact heap_alloc_new w _
 obtain ⟨c0,c1,c2,c3,c4,c5,c6,c7,c8⟩:=nine HR.out
 have hW:=HW.out
 have HF:Hid ((if frOk f to_ d k a ph pr pa then 0 else 2)=0):=if_pos hf
 have HE:=hid (hE.later HB.out)
 have HS:=hid (h.later HB.out)
 clear h hf hE
 go_enter Tryd.func14,Tryd.ntmps14
 go_wp2_with (go_at_call 42; (with_reducible refine (wcheck_e A f to_ d k a y ph pr pa 0 _ HE.out HF.out).mono ?_); rintro e w1 ⟨rfl,hb1⟩; unfold ev; obtain ⟨x0,x1,x2⟩:=(HS.out.later hb1).cells; obtain ⟨c0,c1,c2,c3,c4,c5,c6,c7,c8⟩:=nine ((hb1.block _ (row_ltJ HR.out)).trans HR.out); have g2:w1.cell? ⟨2,0,none⟩=some (.iface 189 (.pointer (some (A 2)))):=(HE.out.later hb1).g2; have HB1:=hid (HB.out.trans (hb1.mono HB.out.size)); clear hb1)
 go_region
 all_goals go_wp2_with fail
 all_goals go_region
 all_goals go_wp2_with fail
 all_goals go_ret2
 all_goals exact ⟨rfl,HB1.out.drew.drew⟩
end Go.Proofs.YtkopfpaldmapdaaDoor
