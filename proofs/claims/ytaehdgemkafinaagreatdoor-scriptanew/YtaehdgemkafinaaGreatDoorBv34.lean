/-
  On the way to SAnewProof: UE.
-/
import Derived.Test.YtaehdgemkafinaaGreatDoorBv32
import Derived.Test.YtaehdgemkafinaaGreatDoorBv19
set_option maxHeartbeats 8000000
set_option maxRecDepth 100000
namespace Go.Proofs.YtaehdgemkafinaaGreatDoor
open Go.RowKit
theorem ins_any (base b o n c i vb:Nat) (cur:Array Value) (L:List F9) (F:F9) (w:World) (hb:w.heap[b]? = some (.cells cur 125 (0,0))) (hbase:base≤b) (hL:L.length=n) (hnc:n≤c) (hcm:c≤maxLen) (hsz:o+c * 9≤cur.size) (htk:∀ j,j<n * 9→cur[o+j]? = (frCells L)[j]?) (hbig:n≤1000000000000) (hi:i<n) (hvb:w.heap[vb]? = some (.cells (f9L F).toArray 125 (0,0))) (hne:vb≠b) :
  Calls Tryz.prog 117 #[.slice (some ⟨b,o,none⟩) n c,.int .i64 (i:Int),.slice (some ⟨vb,0,none⟩) 1 1] w fun e w'=>∃ g o' G,e=.returned (.slice (some ⟨g,o',none⟩) (n+1) G)∧OwnF w' base (.slice (some ⟨g,o',none⟩) (n+1) G) (insL L i F)∧Kept (In1 b) w w'∧(g=b ∨ g=w.heap.size):=by
 by_cases hr:n+1≤c
 ·refine (ins_room base b o n c i vb cur L F w hb hbase hL hr hcm hsz htk hi hvb hne).mono ?_
  rintro e w' ⟨h1,h2,h3⟩
  exact ⟨b,o,c,h1,h2,h3,.inl rfl⟩
 ·refine (ins_grow base b o n c i vb cur L F w hb (by have:=row_ltJ hb; omega) hL hnc (by omega) hbig htk hi hvb).mono ?_
  rintro e w' ⟨G,h1,h2,h3⟩
  refine ⟨_,0,G,h1,OwnF.of_own ?_,Kept.of_below h3,.inr rfl⟩
  rw [insL_length L i F (by omega),hL]
  exact h2
section
variable {w0 w w':World} {C C':Nat→Nat} {K:NB} {X:XB} {i m m':Nat} {zs:List Int} {N:PN} {V V':PX} {A:Nat→Addr}
theorem twice_no (s:Int) (h:WD w0 w C X zs V m) (hE:Held9 w0 A) (hs:¬ (0≤s∧s<V.fly.length)) :
  Calls Tryz.prog 49 #[.pointer (some ⟨X.xb,0,none⟩),.int .i64 s] w fun e w'=>e=.returned (ev A 4)∧w'=w:=by
 have H:=hid h
 have HB:=hid (decide_eq_false hs)
 have g3':w.cell? ⟨3,0,none⟩=some (.iface 318 (.pointer (some (A 3)))):=(h.held hE).var 3 (by decide)
 clear h hE hs
 go_enter Tryz.func49,Tryz.ntmps49
 go_wp2_with fail
 refine (flies_is s false H.out HB.out).mono ?_
 rintro e w1 ⟨rfl,hx⟩
 subst w1
 go_wp2_with fail
 go_ret
 exact ⟨rfl,rfl⟩
theorem XI.twice {k:Nat} {f:F9} (h:XI zs V m) (hf:f∈V.fly):XI zs (twiceX V k f) (m+1):=by
 refine ⟨h.he,fun i hi=>(h.nd i hi).mono (Nat.le_succ _),fun x hx=>?_,?_,h.ev⟩
 ·rcases List.mem_append.1 hx with g|g
  ·exact h.fr x (List.mem_of_mem_take g)
  ·rcases List.mem_cons.1 g with g|g
   ·rw [g]; exact h.fr f hf
   ·exact h.fr x (List.mem_of_mem_drop g)
 ·have:=h.fl
  show (V.fly.take k ++ f :: V.fly.drop k).length≤_
  rw [List.length_append,List.length_take,List.length_cons,List.length_drop]; omega
theorem WD.twiced {k g o c g' o' G:Nat} {f:F9} {W:World} (h:WD w0 w C X zs V m) (hv:X.fv=.slice (some ⟨g,o,none⟩) V.fly.length c) (hk:k<V.fly.length) (hf:f∈V.fly) (hb:Below w.heap.size w W) (hown:OwnF w' w0.heap.size (.slice (some ⟨g',o',none⟩) (V.fly.length+1) G) (insL V.fly k f)) (hkk:Kept (In1 g) W w') (hg:g'=g ∨ g'=W.heap.size) :
  WOut w0 w (w'.setCell ⟨X.xb,3,none⟩ (.slice (some ⟨g',o',none⟩) (V.fly.length+1) G)) C X zs (twiceX V k f) (m+1):=by
 have hW:=h.later hb
 have cg:C g=1005:=h.cf g (by rw [hv]; rfl)
 have hcx:=h.cx
 have hgx:g≠X.xb:=fun e=>by rw [e] at cg; omega
 have hrow:w'.heap[X.xb]? = some (.cells (wdC X zs.length).toArray 148 (0,0)):=hkk.row hW.row (fun e=>hgx (show X.xb=g from e).symm)
 have hxl:=row_ltJ hW.row
 have hS:∀ x,(x=X.xb ∨ x=g)→C x=1001 ∨ C x=1005 ∨ C x=1006:=fun x hx=>by
  rcases hx with rfl|rfl
  ·exact .inl h.cx
  ·exact .inr (.inl cg)
 have hK2:Kept (fun x=>x=X.xb ∨ x=g) W (w'.setCell ⟨X.xb,3,none⟩ (.slice (some ⟨g',o',none⟩) (V.fly.length+1) G)):=(hkk.mono (fun x hx=>.inr hx)).setCell (.inl rfl) _
 have hg'lt:g'<w'.heap.size:=(hown.lt _ rfl).2
 have hg'x:g'≠X.xb:=fun e=>by rcases hg with q|q <;> omega
 obtain ⟨C1,hC1,hl1,hcg1⟩:∃ C1:Nat→Nat,(∀ x,x<W.heap.size→C1 x=C x)∧(∀ x,W.heap.size≤x→C1 x<2000→x<(w'.setCell ⟨X.xb,3,none⟩ (.slice (some ⟨g',o',none⟩) (V.fly.length+1) G)).heap.size)∧C1 g'=1005:=by
  rcases hg with q|q
  ·exact ⟨C,fun _ _=>rfl,fun x hx hc=>by have:=hW.lt x hc; omega,by rw [q]; exact cg⟩
  ·refine ⟨paint C g' 1005,fun x hx=>paint_ne (by omega),fun x hx hc=>?_,paint_at _ _ _⟩
   by_cases e:x=g'
   ·rw [e]; simpa using hg'lt
   ·rw [paint_ne e] at hc
    have:=hW.lt x hc; omega
 have hl:(V.fly.take k ++ f :: V.fly.drop k).length=V.fly.length+1:=by rw [List.length_append,List.length_take,List.length_cons,List.length_drop]; omega
 refine WOut.step (C1:=C) (X1:=X) rfl (Kept.of_below hb) (fun _ _=>rfl) ?_
 refine ⟨C1,{ X with fv:=.slice (some ⟨g',o',none⟩) (V.fly.length+1) G },?_,rfl,hK2.mono (fun x hx=>by show C x<2000; rcases hS x hx with q|q|q <;> omega),hC1⟩
 refine hW.own (ev:=X.ev) (E:=V.evs) (F:=V.fly.take k ++ f :: V.fly.drop k) hK2 hS hC1 hl1 ?_ ?_ ?_ ?_ ?_ (Nat.le_succ _) (h.inv.twice hf)
 ·rw [heap_setCell_same w' X.xb 3 _ _ _ hrow]; rfl
 ·exact hown.kept ((Kept.refl (In1 X.xb) w').set1 3 _) (fun y hy e=>by
   have:g'=y:=Option.some.inj hy
   rw [← this] at e
   exact hg'x e)
 ·exact own_kept hW.evs hK2 (fun y hy e=>by
   have h6:=h.ce y hy
   rcases e with rfl|rfl
   ·omega
   ·omega)
 ·intro y hy
  have:g'=y:=Option.some.inj hy
  rw [← this]; exact hcg1
 ·intro y hy
  rw [hC1 y (own_lt hW.evs hy)]
  exact h.ce y hy
theorem twice_ok (j:Nat) (F:F9) (h:WD w0 w C X zs V m) (hj:j<V.fly.length) (hF:V.fly[j]'hj=F) (hm:m<1000000) :
  Calls Tryz.prog 49 #[.pointer (some ⟨X.xb,0,none⟩),.int .i64 (j:Int)] w fun e w'=>e=.returned .nilIface∧WOut w0 w w' C X zs (twiceX V j F) (m+1):=by
 obtain ⟨g,o,cap,cur,hv,h2,h3,h4,h5,h6,h7⟩:=h.flyForm (by omega)
 have hcl:=fly_cells h3 h7 hj
 rw [hF] at hcl
 obtain ⟨b0,b1,b2,b3,b4,b5,b6,b7,b8⟩:=nineO (o:=o+j * 9) hcl
 obtain ⟨-,-,-,c3,-⟩:=h.cells
 have cg:C g=1005:=h.cf g (by rw [hv]; rfl)
 have HMem:Hid (F∈V.fly):=by rw [← hF]; exact List.getElem_mem _
 have H:=hid h
 have HB:Hid (decide (0≤(j:Int)∧(j:Int)<V.fly.length)=true):=decide_eq_true (by omega)
 have hbig:V.fly.length≤1000000000000:=by have:=h.inv.fl; omega
 obtain ⟨n,hn⟩:∃ n,Hid (V.fly.length=n):=⟨_,rfl⟩
 have HV:=hid hv
 rw [hv] at c3
 obtain ⟨W,HW⟩:∃ W,Hid (w.drew.alloc (.cells (f9L F).toArray 125)=W):=⟨_,rfl⟩
 have HBW:Hid (Below w.heap.size w W):=by rw [← HW.out]; exact (Below.refl _ _).drew.alloc (Nat.le_refl _) _
 have HRW:Hid (W.heap[w.heap.size]? = some (.cells (f9L F).toArray 125 (0,0))):=by rw [← HW.out]; exact heap_alloc_new w.drew _
 have hW:=HW.out
 have c3W:=cell_later HBW.out c3
 have HIns:=hid (ins_any w0.heap.size g o n cap j w.heap.size cur V.fly F W ((HBW.out.block _ (row_ltJ h3)).trans h3) h2 hn.out (by rw [← hn.out]; exact h4) h5 h6 (by rw [← hn.out]; exact h7) (by rw [← hn.out]; exact hbig) (by rw [← hn.out]; exact hj) HRW.out (by have:=row_ltJ h3; omega))
 have HJ:=hid hj
 rw [hn.out] at c3 c3W hbig hj
 have HX:Hid (∀ w',Kept (In1 g) W w'→w'.cell? ⟨X.xb,3,none⟩=some (.slice (some ⟨g,o,none⟩) n cap)∧w'.frozen? ⟨X.xb,3,none⟩=false):=by
  intro w' hkk
  have hr:=hkk.row (H.out.later HBW.out).row (fun e=>by have h1:=H.out.cx; rw [show X.xb=g from e,cg] at h1; omega)
  exact ⟨by rw [cell_of_row _ _ _ _ _ _ hr,← hn.out,← HV.out]; rfl,frozen_of_row _ _ _ _ _ hr⟩
 obtain ⟨ff,ft,fd,fk,fa,fy,fp1,fp2,fp3⟩:=F
 simp only at b0 b1 b2 b3 b4 b5 b6 b7 b8
 have e0:=cell_later HBW.out b0
 have hW':w.drew.alloc (.cells #[.int .i64 ff,.int .i64 ft,.int .i64 fd,.int .i64 fk,.int .i64 fa,.bool fy,.int .i64 fp1,.int .i64 fp2,.int .i64 fp3] 125)=W:=hW
 have HXB:Hid (X.xb<W.heap.size):=by have:=row_ltJ (H.out.later HBW.out).row; exact this
 clear h hv h2 h3 h4 h5 h6 h7 cg hcl hF hW
 go_enter Tryz.func49,Tryz.ntmps49
 go_wp2_with fail
 refine (flies_is (j:Int) true H.out HB.out).mono ?_
 rintro e w1 ⟨rfl,hx⟩
 subst w1
 go_wp2_with fail
 go_region_with ((go_at_call 117; (with_reducible refine HIns.out.mono ?_); rintro e w2 ⟨g',o',G,rfl,ho2,hk2,hg2⟩; obtain ⟨q3,qz⟩:=HX.out w2 hk2; have HO:=hid (And.intro ho2 (And.intro hk2 hg2)); clear ho2 hk2 hg2))
 all_goals go_wp2_with fail
 all_goals go_ret
 all_goals refine ⟨rfl,?_⟩
 all_goals rw [← hn.out] at HO ⊢
 all_goals exact H.out.twiced HV.out HJ.out HMem.out HBW.out HO.out.1 HO.out.2.1 HO.out.2.2
end
end Go.Proofs.YtaehdgemkafinaaGreatDoor
