/-
  On the way to WStepsProof, WCommitsProof, WAgreesProof, WEndsProof, WWaitsProof, JTampersProof, PAgreesProof, PAgainProof: UE VZ.
-/
import Derived.Test.YtadhpkopkkjmfaaGreatDoorBz44
set_option maxHeartbeats 8000000
set_option maxRecDepth 100000
namespace Go.Proofs.YtadhpkopkkjmfaaGreatDoor
open Go.RowKit
theorem ins_any (base b o n c i vb:Nat) (cur:Array Value) (L:List F9) (F:F9) (w:World) (hb:w.heap[b]? = some (.cells cur 104 (0,0))) (hbase:base≤b) (hL:L.length=n) (hnc:n≤c) (hcm:c≤maxLen) (hsz:o+c * 9≤cur.size) (htk:∀ j,j<n * 9→cur[o+j]? = (frCells L)[j]?) (hbig:n≤1000000000000) (hi:i<n) (hvb:w.heap[vb]? = some (.cells (f9L F).toArray 104 (0,0))) (hne:vb≠b) :
  Calls Tryz.prog 113 #[.slice (some ⟨b,o,none⟩) n c,.int .i64 (i:Int),.slice (some ⟨vb,0,none⟩) 1 1] w fun e w'=>∃ g o' G,e=.returned (.slice (some ⟨g,o',none⟩) (n+1) G)∧OwnF w' base (.slice (some ⟨g,o',none⟩) (n+1) G) (insL L i F)∧Kept (In1 b) w w'∧(g=b ∨ g=w.heap.size):=by
 by_cases hr:n+1≤c
 ·refine (ins_room base b o n c i vb cur L F w hb hbase hL hr hcm hsz htk hi hvb hne).mono ?_
  rintro e w' ⟨h1,h2,h3⟩
  exact ⟨b,o,c,h1,h2,h3,.inl rfl⟩
 ·refine (ins_grow base b o n c i vb cur L F w hb (by have:=row_ltJ hb; omega) hL hnc (by omega) hbig htk hi hvb).mono ?_
  rintro e w' ⟨G,h1,h2,h3⟩
  refine ⟨_,0,G,h1,OwnF.of_own ?_,Kept.of_below h3,.inr rfl⟩
  rw [insL_length L i F (by omega),hL]
  exact h2
section
variable {w0 w w':World} {C C':Nat→Nat} {K:NB} {X:XB} {i m m':Nat} {zs:List Int} {N:PN} {V V':PX} {A:Nat→Addr}
theorem twice_no (s:Int) (h:WD w0 w C X zs V m) (hE:Held9 w0 A) (hs:¬ (0≤s∧s<V.fly.length)) :
  Calls Tryz.prog 68 #[.pointer (some ⟨X.xb,0,none⟩),.int .i64 s] w fun e w'=>e=.returned (ev A 4)∧w'=w:=by
 have H:=hid h
 have HB:=hid (decide_eq_false hs)
 have g3':w.cell? ⟨1,0,none⟩=some (.iface 276 (.pointer (some (A 3)))):=(h.held hE).var 3 (by decide)
 clear h hE hs
 go_enter Tryz.func68,Tryz.ntmps68
 go_wp2_with fail
 refine (flies_is s false H.out HB.out).mono ?_
 rintro e w1 ⟨rfl,hx⟩
 subst w1
 go_wp2_with fail
 go_ret
 exact ⟨rfl,rfl⟩
theorem XI.twice {k:Nat} {f:F9} (h:XI zs V m) (hf:f∈V.fly):XI zs (twiceX V k f) (m+1):=by
 refine ⟨h.he,fun i hi=>(h.nd i hi).mono (Nat.le_succ _),fun x hx=>?_,?_,h.ev⟩
 ·rcases List.mem_append.1 hx with g|g
  ·exact h.fr x (List.mem_of_mem_take g)
  ·rcases List.mem_cons.1 g with g|g
   ·rw [g]; exact h.fr f hf
   ·exact h.fr x (List.mem_of_mem_drop g)
 ·have:=h.fl
  show (V.fly.take k ++ f :: V.fly.drop k).length≤_
  rw [List.length_append,List.length_take,List.length_cons,List.length_drop]; omega
theorem WD.twiced {k g o c g' o' G:Nat} {f:F9} {W:World} (h:WD w0 w C X zs V m) (hv:X.fv=.slice (some ⟨g,o,none⟩) V.fly.length c) (hk:k<V.fly.length) (hf:f∈V.fly) (hb:Below w.heap.size w W) (hown:OwnF w' w0.heap.size (.slice (some ⟨g',o',none⟩) (V.fly.length+1) G) (insL V.fly k f)) (hkk:Kept (In1 g) W w') (hg:g'=g ∨ g'=W.heap.size) :
  WOut w0 w (w'.setCell ⟨X.xb,3,none⟩ (.slice (some ⟨g',o',none⟩) (V.fly.length+1) G)) C X zs (twiceX V k f) (m+1):=by
 have hW:=h.later hb
 have cg:C g=1005:=h.cf g (by rw [hv]; rfl)
 have hcx:=h.cx
 have hgx:g≠X.xb:=fun e=>by rw [e] at cg; omega
 have hrow:w'.heap[X.xb]? = some (.cells (wdC X zs.length).toArray 84 (0,0)):=hkk.row hW.row (fun e=>hgx (show X.xb=g from e).symm)
 have hxl:=row_ltJ hW.row
 have hS:∀ x,(x=X.xb ∨ x=g)→C x=1001 ∨ C x=1005 ∨ C x=1006:=fun x hx=>by
  rcases hx with rfl|rfl
  ·exact .inl h.cx
  ·exact .inr (.inl cg)
 have hK2:Kept (fun x=>x=X.xb ∨ x=g) W (w'.setCell ⟨X.xb,3,none⟩ (.slice (some ⟨g',o',none⟩) (V.fly.length+1) G)):=(hkk.mono (fun x hx=>.inr hx)).setCell (.inl rfl) _
 have hg'lt:g'<w'.heap.size:=(hown.lt _ rfl).2
 have hg'x:g'≠X.xb:=fun e=>by rcases hg with q|q <;> omega
 obtain ⟨C1,hC1,hl1,hcg1⟩:∃ C1:Nat→Nat,(∀ x,x<W.heap.size→C1 x=C x)∧(∀ x,W.heap.size≤x→C1 x<2000→x<(w'.setCell ⟨X.xb,3,none⟩ (.slice (some ⟨g',o',none⟩) (V.fly.length+1) G)).heap.size)∧C1 g'=1005:=by
  rcases hg with q|q
  ·exact ⟨C,fun _ _=>rfl,fun x hx hc=>by have:=hW.lt x hc; omega,by rw [q]; exact cg⟩
  ·refine ⟨paint C g' 1005,fun x hx=>paint_ne (by omega),fun x hx hc=>?_,paint_at _ _ _⟩
   by_cases e:x=g'
   ·rw [e]; simpa using hg'lt
   ·rw [paint_ne e] at hc
    have:=hW.lt x hc; omega
 have hl:(V.fly.take k ++ f :: V.fly.drop k).length=V.fly.length+1:=by rw [List.length_append,List.length_take,List.length_cons,List.length_drop]; omega
 refine WOut.step (C1:=C) (X1:=X) rfl (Kept.of_below hb) (fun _ _=>rfl) ?_
 refine ⟨C1,{ X with fv:=.slice (some ⟨g',o',none⟩) (V.fly.length+1) G },?_,rfl,hK2.mono (fun x hx=>by show C x<2000; rcases hS x hx with q|q|q <;> omega),hC1⟩
 refine hW.own (ev:=X.ev) (E:=V.evs) (F:=V.fly.take k ++ f :: V.fly.drop k) hK2 hS hC1 hl1 ?_ ?_ ?_ ?_ ?_ (Nat.le_succ _) (h.inv.twice hf)
 ·rw [heap_setCell_same w' X.xb 3 _ _ _ hrow]; rfl
 ·exact hown.kept ((Kept.refl (In1 X.xb) w').set1 3 _) (fun y hy e=>by
   have:g'=y:=Option.some.inj hy
   rw [← this] at e
   exact hg'x e)
 ·exact own_kept hW.evs hK2 (fun y hy e=>by
   have h6:=h.ce y hy
   rcases e with rfl|rfl
   ·omega
   ·omega)
 ·intro y hy
  have:g'=y:=Option.some.inj hy
  rw [← this]; exact hcg1
 ·intro y hy
  rw [hC1 y (own_lt hW.evs hy)]
  exact h.ce y hy
theorem twice_ok (j:Nat) (F:F9) (h:WD w0 w C X zs V m) (hj:j<V.fly.length) (hF:V.fly[j]'hj=F) (hm:m<1000000) :
  Calls Tryz.prog 68 #[.pointer (some ⟨X.xb,0,none⟩),.int .i64 (j:Int)] w fun e w'=>e=.returned .nilIface∧WOut w0 w w' C X zs (twiceX V j F) (m+1):=by
 obtain ⟨g,o,cap,cur,hv,h2,h3,h4,h5,h6,h7⟩:=h.flyForm (by omega)
 have hcl:=fly_cells h3 h7 hj
 rw [hF] at hcl
 obtain ⟨b0,b1,b2,b3,b4,b5,b6,b7,b8⟩:=nineO (o:=o+j * 9) hcl
 obtain ⟨-,-,-,c3,-⟩:=h.cells
 have cg:C g=1005:=h.cf g (by rw [hv]; rfl)
 have HMem:Hid (F∈V.fly):=by rw [← hF]; exact List.getElem_mem _
 have H:=hid h
 have HB:Hid (decide (0≤(j:Int)∧(j:Int)<V.fly.length)=true):=decide_eq_true (by omega)
 have hbig:V.fly.length≤1000000000000:=by have:=h.inv.fl; omega
 obtain ⟨n,hn⟩:∃ n,Hid (V.fly.length=n):=⟨_,rfl⟩
 have HV:=hid hv
 rw [hv] at c3
 obtain ⟨W,HW⟩:∃ W,Hid (w.drew.alloc (.cells (f9L F).toArray 104)=W):=⟨_,rfl⟩
 have HBW:Hid (Below w.heap.size w W):=by rw [← HW.out]; exact (Below.refl _ _).drew.alloc (Nat.le_refl _) _
 have HRW:Hid (W.heap[w.heap.size]? = some (.cells (f9L F).toArray 104 (0,0))):=by rw [← HW.out]; exact heap_alloc_new w.drew _
 have hW:=HW.out
 have c3W:=cell_later HBW.out c3
 have HIns:=hid (ins_any w0.heap.size g o n cap j w.heap.size cur V.fly F W ((HBW.out.block _ (row_ltJ h3)).trans h3) h2 hn.out (by rw [← hn.out]; exact h4) h5 h6 (by rw [← hn.out]; exact h7) (by rw [← hn.out]; exact hbig) (by rw [← hn.out]; exact hj) HRW.out (by have:=row_ltJ h3; omega))
 have HJ:=hid hj
 rw [hn.out] at c3 c3W hbig hj
 have HX:Hid (∀ w',Kept (In1 g) W w'→w'.cell? ⟨X.xb,3,none⟩=some (.slice (some ⟨g,o,none⟩) n cap)∧w'.frozen? ⟨X.xb,3,none⟩=false):=by
  intro w' hkk
  have hr:=hkk.row (H.out.later HBW.out).row (fun e=>by have h1:=H.out.cx; rw [show X.xb=g from e,cg] at h1; omega)
  exact ⟨by rw [cell_of_row _ _ _ _ _ _ hr,← hn.out,← HV.out]; rfl,frozen_of_row _ _ _ _ _ hr⟩
 obtain ⟨ff,ft,fd,fk,fa,fy,fp1,fp2,fp3⟩:=F
 simp only at b0 b1 b2 b3 b4 b5 b6 b7 b8
 have e0:=cell_later HBW.out b0
 have hW':w.drew.alloc (.cells #[.int .i64 ff,.int .i64 ft,.int .i64 fd,.int .i64 fk,.int .i64 fa,.bool fy,.int .i64 fp1,.int .i64 fp2,.int .i64 fp3] 104)=W:=hW
 have HXB:Hid (X.xb<W.heap.size):=by have:=row_ltJ (H.out.later HBW.out).row; exact this
 clear h hv h2 h3 h4 h5 h6 h7 cg hcl hF hW
 go_enter Tryz.func68,Tryz.ntmps68
 go_wp2_with fail
 refine (flies_is (j:Int) true H.out HB.out).mono ?_
 rintro e w1 ⟨rfl,hx⟩
 subst w1
 go_wp2_with fail
 go_region_with ((go_at_call 113; (with_reducible refine HIns.out.mono ?_); rintro e w2 ⟨g',o',G,rfl,ho2,hk2,hg2⟩; obtain ⟨q3,qz⟩:=HX.out w2 hk2; have HO:=hid (And.intro ho2 (And.intro hk2 hg2)); clear ho2 hk2 hg2))
 all_goals go_wp2_with fail
 all_goals go_ret
 all_goals refine ⟨rfl,?_⟩
 all_goals rw [← hn.out] at HO ⊢
 all_goals exact H.out.twiced HV.out HJ.out HMem.out HBW.out HO.out.1 HO.out.2.1 HO.out.2.2
end
section
variable {w0 w w':World} {C C':Nat→Nat} {K:NB} {X:XB} {i m m':Nat} {zs:List Int} {N:PN} {V V':PX} {A:Nat→Addr}
theorem pkey_inj {a b a' b':Nat} {l:Lit} (h1:keyOf Tryz.prog 124 (pairV a b)=some l) (h2:keyOf Tryz.prog 124 (pairV a' b')=some l):a=a'∧b=b':=by
 have:=plaw.inj h1 h2
 unfold pairV at this
 simp at this
 omega
theorem WD.linked {a b:Nat} {whole:Bool} (h:WD w0 w C X zs V m) (hk:Kept (In1 X.mb) w w') (hD:∃ D:DataW Unit,w'.ownsMap Tryz.prog 124 unitElem X.mb (m+1) D∧∀ x y,x<7→y<7→∀ l,keyOf Tryz.prog 124 (pairV x y)=some l→Maps.has D l=(linkX V a b whole).br x y) :
  WOut w0 w w' C X zs (linkX V a b whole) (m+1):=by
 have n7:=h.n7.2
 have cx:=h.cx; have cw:=h.cw; have cn:=h.cn; have cm:=h.cm
 have hlow:∀ x,In1 X.mb x→w0.heap.size≤x:=fun x hx=>by rw [show x=_ from hx]; exact h.low _ (by omega)
 have nS:∀ x,C x≠1004→¬ In1 X.mb x:=fun x g hx=>by rw [show x=X.mb from hx] at g; exact g cm
 refine ⟨C,X,⟨hk.below h.bel.size hlow h.bel,hk.row h.row (nS _ (by omega)),fun e he=>cell_kept (h.ws e he) hk (nS _ (by show C X.wb≠_; omega)),fun e he=>cell_kept (h.ns e he) hk (nS _ (by show C X.nb≠_; omega)),fun e he=>((h.nds e he).kept hk (fun x _ hx=>nS x (by omega)) hlow).mono (Nat.le_succ _),hD,h.fly.kept hk (fun g hg=>nS g (by have:=h.cf g hg; omega)),own_kept h.evs hk (fun g hg=>nS g (by have:=h.ce g hg; omega)),h.cx,h.cw,h.cn,h.cm,h.cf,h.ce,fun x hx=>Nat.lt_of_lt_of_le (h.lt x hx) hk.size,h.low,?_⟩,rfl,hk.mono (fun x hx=>by rw [show x=_ from hx]; show C _<2000; omega),fun _ _=>rfl⟩
 exact ⟨h.inv.he,fun i hi=>(h.inv.nd i hi).mono (Nat.le_succ _),h.inv.fr,by have:=h.inv.fl; show V.fly.length≤_; omega,h.inv.ev⟩
theorem turned_kept {b:Nat} (h:w.mapTurned w' b):Kept (In1 b) w w':=by
 obtain ⟨es,cl,es',cl',hb,rfl⟩:=h
 refine ⟨rfl,rfl,rfl,?_,fun k hk hs=>?_⟩
 ·show w.heap.size≤(w.heap.setIfInBounds b (.map es' cl')).size
  simp
 ·show (w.heap.setIfInBounds b (.map es' cl'))[k]? = w.heap[k]?
  rw [Array.getElem?_setIfInBounds_ne (fun e=>hs (show k=b from e.symm))]
theorem WD.breaks {a b:Nat} (h:WD w0 w C X zs V m) (hm:m<1000000) (ha:a<7) (hb:b<7) :
  ∃ w4,(Instr.mapUpdate 81 (.map (some X.mb)) (pairV (min a b) (max a b)) (.agg #[])).run Tryz.prog w=.ok () w4∧w4.cell? ⟨X.xb,2,none⟩=some (.map (some X.mb))∧WOut w0 w w4 C X zs (linkX V a b false) (m+1):=by
 obtain ⟨D,hD,hh⟩:=h.brk
 obtain ⟨l,hl⟩:=pkey_some (min a b) (max a b) (by omega) (by omega)
 obtain ⟨w4,hr,ho,ht⟩:=hD.store plaw Tryz.underlying81 (by unfold maxLen; omega) hl unitElem_mk
 refine ⟨w4,hr,cell_kept h.cells.2.2.1 (turned_kept ht) (fun e=>by have h1:=h.cx; have h2:=h.cm; rw [show X.xb=X.mb from e] at h1; omega),h.linked (turned_kept ht) ⟨_,ho,fun x y hx hy l2 hl2=>?_⟩⟩
 show _=if x=min a b∧y=max a b then !false else V.br x y
 by_cases g:x=min a b∧y=max a b
 ·rw [if_pos g]
  rw [g.1,g.2,hl] at hl2
  obtain rfl:=Option.some.inj hl2
  exact Maps.has_put_same hD.isMap (plaw.key hl) _
 ·rw [if_neg g,Maps.has_put_other (fun e=>g ?_)]
  ·exact hh x y hx hy l2 hl2
  ·rw [e] at hl2
   exact pkey_inj hl2 hl
theorem WD.mends {a b:Nat} (h:WD w0 w C X zs V m) (ha:a<7) (hb:b<7) (ty:TypeId) :
  ∃ w4,(Builtin.delete_ #[81,124] ty #[.map (some X.mb),pairV (min a b) (max a b)]).run Tryz.prog w=.ok (.tuple #[]) w4∧w4.cell? ⟨X.xb,2,none⟩=some (.map (some X.mb))∧WOut w0 w w4 C X zs (linkX V a b true) (m+1):=by
 obtain ⟨D,hD,hh⟩:=h.brk
 obtain ⟨l,hl⟩:=pkey_some (min a b) (max a b) (by omega) (by omega)
 obtain ⟨w4,hr,ho,ht⟩:=hD.drop plaw Tryz.underlying81 hl ty
 refine ⟨w4,hr,cell_kept h.cells.2.2.1 (turned_kept ht) (fun e=>by have h1:=h.cx; have h2:=h.cm; rw [show X.xb=X.mb from e] at h1; omega),h.linked (turned_kept ht) ⟨_,ho.mono (Nat.le_succ _),fun x y hx hy l2 hl2=>?_⟩⟩
 show _=if x=min a b∧y=max a b then !true else V.br x y
 by_cases g:x=min a b∧y=max a b
 ·rw [if_pos g]
  rw [g.1,g.2,hl] at hl2
  obtain rfl:=Option.some.inj hl2
  exact Maps.has_del_same
 ·rw [if_neg g,Maps.has_del_other (fun e=>g ?_)]
  ·exact hh x y hx hy l2 hl2
  ·rw [e] at hl2
   exact pkey_inj hl2 hl
theorem link_ok (a b:Nat) (whole:Bool) (h:WD w0 w C X zs V m) (ha:a<zs.length) (hb:b<zs.length) (hm:m<1000000) :
  Calls Tryz.prog 33 #[.pointer (some ⟨X.xb,0,none⟩),.int .i64 (a:Int),.int .i64 (b:Int),.bool whole] w fun e w'=>e=.returned .nilIface∧WOut w0 w w' C X zs (linkX V a b whole) (m+1):=by
 have H:=hid h
 have n7:=h.n7
 obtain ⟨-,-,c2,-,-⟩:=h.cells
 have HA:=hid (has_is (a:Int) true h (decide_eq_true (by omega)))
 have HB:=hid (has_is (b:Int) true h (decide_eq_true (by omega)))
 have h7:a<7∧b<7:=by omega
 clear h
 cases whole with
 | true =>
  have HM:Hid (∀ w3,Below w.heap.size w w3→∃ w4,(Builtin.delete_ #[81,124] 0 #[.map (some X.mb),pairV (min a b) (max a b)]).run Tryz.prog w3=.ok (.tuple #[]) w4∧w4.cell? ⟨X.xb,2,none⟩=some (.map (some X.mb))∧WOut w0 w w4 C X zs (linkX V a b true) (m+1)):=by
   intro w3 hb3
   obtain ⟨w4,h1,h0,h2⟩:=(H.out.later hb3).mends h7.1 h7.2 0
   exact ⟨w4,h1,h0,WOut.step (C1:=C) (X1:=X) rfl (Kept.of_below hb3) (fun _ _=>rfl) h2⟩
  go_enter Tryz.func33,Tryz.ntmps33
  go_wp2_with (first|(go_at_call 75; (with_reducible refine HA.out.mono ?_); rintro e w1 ⟨rfl,hx⟩; subst w1)|(go_at_call 75; (with_reducible refine HB.out.mono ?_); rintro e w1 ⟨rfl,hx⟩; subst w1))
  go_region_held3 (fun V=>V.cell? ⟨X.xb,2,none⟩=some (.map (some X.mb))) (go_keep) (first|(go_at_call 76; (with_reducible refine (between_p a b _).mono ?_); rintro e w3 ⟨rfl,hb3⟩; have q0:=cell_later hb3 c2; obtain ⟨w4,hr4,q4,ho4⟩:=HM.out w3 ((Below.refl _ _).drew.trans hb3); have HO4:=hid ho4; clear hb3 ho4))
  all_goals go_wp2_with fail
  all_goals go_ret
  all_goals exact ⟨rfl,HO4.out⟩
 | false =>
  have HM:Hid (∀ w3,Below w.heap.size w w3→∃ w4,(Instr.mapUpdate 81 (.map (some X.mb)) (pairV (min a b) (max a b)) (.agg #[])).run Tryz.prog w3=.ok () w4∧w4.cell? ⟨X.xb,2,none⟩=some (.map (some X.mb))∧WOut w0 w w4 C X zs (linkX V a b false) (m+1)):=by
   intro w3 hb3
   obtain ⟨w4,h1,h0,h2⟩:=(H.out.later hb3).breaks hm h7.1 h7.2
   exact ⟨w4,h1,h0,WOut.step (C1:=C) (X1:=X) rfl (Kept.of_below hb3) (fun _ _=>rfl) h2⟩
  go_enter Tryz.func33,Tryz.ntmps33
  go_wp2_with (first|(go_at_call 75; (with_reducible refine HA.out.mono ?_); rintro e w1 ⟨rfl,hx⟩; subst w1)|(go_at_call 75; (with_reducible refine HB.out.mono ?_); rintro e w1 ⟨rfl,hx⟩; subst w1))
  go_region_held3 (fun V=>V.cell? ⟨X.xb,2,none⟩=some (.map (some X.mb))) (go_keep) (first|(go_at_call 76; (with_reducible refine (between_p a b _).mono ?_); rintro e w3 ⟨rfl,hb3⟩; have q0:=cell_later hb3 c2; obtain ⟨w4,hr4,q4,ho4⟩:=HM.out w3 ((Below.refl _ _).drew.trans hb3); have HO4:=hid ho4; clear hb3 ho4))
  all_goals go_wp2_with fail
  all_goals go_ret
  all_goals exact ⟨rfl,HO4.out⟩
theorem link_no (a b:Int) (whole:Bool) (h:WD w0 w C X zs V m) (hE:Held9 w0 A) (hs:¬ ((0≤a∧a<zs.length)∧0≤b∧b<zs.length)) :
  Calls Tryz.prog 33 #[.pointer (some ⟨X.xb,0,none⟩),.int .i64 a,.int .i64 b,.bool whole] w fun e w'=>e=.returned (ev A 2)∧w'=w:=by
 have g1:w.cell? ⟨3,0,none⟩=some (.iface 276 (.pointer (some (A 1)))):=(h.held hE).var 1 (by decide)
 have HA:=hid (fun x=>has_is a x h)
 have HB:=hid (fun x=>has_is b x h)
 clear h
 by_cases ha:0≤a∧a<zs.length
 ·have hb:¬ (0≤b∧b<zs.length):=fun g=>hs ⟨ha,g⟩
  have HA1:=hid (HA.out true (decide_eq_true ha))
  have HB1:=hid (HB.out false (decide_eq_false hb))
  clear HA HB ha hb hs
  go_enter Tryz.func33,Tryz.ntmps33
  go_wp2_with (first|(go_at_call 75; (with_reducible refine HA1.out.mono ?_); rintro e w1 ⟨rfl,hx⟩; subst w1)|(go_at_call 75; (with_reducible refine HB1.out.mono ?_); rintro e w1 ⟨rfl,hx⟩; subst w1))
  go_ret
  exact ⟨rfl,rfl⟩
 ·have HA1:=hid (HA.out false (decide_eq_false ha))
  clear HA HB ha hs
  go_enter Tryz.func33,Tryz.ntmps33
  go_wp2_with (first|(go_at_call 75; (with_reducible refine HA1.out.mono ?_); rintro e w1 ⟨rfl,hx⟩; subst w1))
  go_ret
  exact ⟨rfl,rfl⟩
end
end Go.Proofs.YtadhpkopkkjmfaaGreatDoor
