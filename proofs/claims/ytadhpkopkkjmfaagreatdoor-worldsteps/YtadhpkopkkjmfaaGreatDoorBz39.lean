/-
  On the way to WStepsProof, WCommitsProof, WAgreesProof, WEndsProof, WWaitsProof, JTampersProof, PAgreesProof, PAgainProof: VE.
-/
import Derived.Test.YtadhpkopkkjmfaaGreatDoorBz35
import Derived.Maps.AppendAt
set_option maxHeartbeats 8000000
set_option maxRecDepth 100000
namespace Go.Proofs.YtadhpkopkkjmfaaGreatDoor
open Go.RowKit
theorem FL.cells {w:World} {a:Addr} {L:List F9} (h:FL w (some a) L) (j:Nat) (u:Value) (hu:(frCells L)[j]? = some u):w.cell? (a.add j)=some u:=by
 have hl:=(List.getElem?_eq_some_iff.1 hu).1
 rw [frCells_length] at hl
 have hi:j / 9<L.length:=by omega
 obtain ⟨b,off,e,hc⟩:=h (j / 9) hi
 have h9:=hc (j % 9) (by omega)
 obtain rfl:a=⟨b,off,none⟩:=Option.some.inj e
 rw [addr_add]
 have e2:off+j / 9 * 9+j % 9=off+j:=by omega
 rw [e2] at h9
 rw [h9,← hu]
 have:=frCells_get L (j / 9) (j % 9) hi (by omega)
 rw [show j / 9 * 9+j % 9=j by omega] at this
 exact this.symm
theorem run_append_frs (w:World) (ty:TypeId) (base n:Nat) (v u:Value) (xs:List Value) (L:List F9) (hown:w.ownsRow base 104 9 v n xs) (hu:IsFr w u L) (hn:n+L.length≤1000000000000) (hb:base≤w.heap.size) :
  ∃ v' w',(Builtin.append_ #[34,34] ty #[v,u]).run Tryz.prog w=.ok v' w'∧w'.ownsRow base 104 9 v' (n+L.length) (xs ++ frCells L)∧w.grownBy w' v.ownBlock∧(v'.ownBlock=v.ownBlock ∨ v'.ownBlock=some w.heap.size):=by
 obtain ⟨i0,hi0,hz0,hz1,hz2⟩:=info_parts Tryz.infoFq
 obtain ⟨ad,cap,rfl,hf⟩:=hu
 cases ad with
 | none =>
  have hL:L=[]:=by
   cases L with
   | nil=>rfl
   | cons x r=>obtain ⟨b,off,e,-⟩:=hf 0 (by simp); cases e
  subst hL
  refine ⟨v,w,?_,by simpa [frCells] using hown,⟨rfl,rfl,rfl,Nat.le_refl _,fun _ _ _=>rfl⟩,.inl rfl⟩
  rcases hown.2 with ⟨rfl,rfl⟩|⟨g,c,cur,rfl,_,_,hnc,_⟩
  ·simp [Builtin.append_,run_underlying Tryz.underlying34,Go.sizeOf,typeInfo,hi0,Builtin.lenOf,Builtin.firstCells]
  ·simp [Builtin.append_,run_underlying Tryz.underlying34,Go.sizeOf,typeInfo,hi0,Builtin.lenOf,Builtin.firstCells,hnc,storeCells]
 | some a =>
  obtain ⟨v',w',h1,h2,h3,-,h5⟩:=run_append_own_at (P:=Tryz.prog) w base 34 ty 104 i0 _ 9 72 Tryz.underlying34 hi0 hz0 hz1 hz2 rfl (by decide) v n xs hown a L.length cap (frCells L) (frCells_length L) hf.cells (frCells_one L) (by unfold maxLen; omega) (by omega) hb
  exact ⟨v',w',h1,h2,h3,h5⟩
theorem wpList_append_frs {w:World} {ops:Array Oper} {rest:List Oper} {o:Oper} {a:Act} {Q:Exit→Act→World→Prop} (hgd:o.guard=none) (s x:Operand)
  (ho:o.op=.call { callee:=.builtin .append,args:=#[s,x],argTypes:=#[34,34] })
  (base n:Nat) (v u:Value) (xs:List Value) (L:List F9) (hs:a.eval s=v) (hx:a.eval x=u) (hown:w.ownsRow base 104 9 v n xs) (hu:IsFr w u L) (hn:n+L.length≤1000000000000) (hb:base≤w.heap.size)
  (h:∀ ad' cap' w',w'.ownsRow base 104 9 (.slice ad' (n+L.length) cap') (n+L.length) (xs ++ frCells L)→w.grownBy w' v.ownBlock→((Value.slice ad' (n+L.length) cap').ownBlock=v.ownBlock ∨ (Value.slice ad' (n+L.length) cap').ownBlock=some w.heap.size)→wpList Tryz.prog ops Q rest (a.put o.dst (.slice ad' (n+L.length) cap')) w') :
  wpList Tryz.prog ops Q (o :: rest) a w:=by
 refine wpList_plain hgd fun K hK=>?_
 obtain ⟨v',w',hr,h2,h3,h5⟩:=run_append_frs w o.type base n v u xs L hown hu hn hb
 unfold Oper.wp execOp
 simp only [ho,resolve,invoke,builtin,Sem.run_bind,Sem.run_pure,Result.andThen_ok,List.map_toArray,List.map_cons,List.map_nil,hs,hx,hr]
 obtain ⟨ad',cap',rfl⟩:∃ ad' cap',v'=.slice ad' (n+L.length) cap':=by
  rcases h2.2 with ⟨e,h0⟩|⟨g,cap,cur,e,-⟩
  ·exact ⟨none,0,by rw [e,h0]⟩
  ·exact ⟨_,_,e⟩
 exact hK _ _ (h ad' cap' w' h2 h3 h5)
theorem run_append_frsF (w:World) (ty:TypeId) (base:Nat) (v u:Value) (M L:List F9) (hown:OwnF w base v M) (hu:IsFr w u L) (hn:M.length+L.length≤1000000000000) (hb:base≤w.heap.size) :
  ∃ v' w',(Builtin.append_ #[34,34] ty #[v,u]).run Tryz.prog w=.ok v' w'∧OwnF w' base v' (M ++ L)∧w.grownBy w' v.ownBlock∧(v'.ownBlock=v.ownBlock ∨ v'.ownBlock=some w.heap.size):=by
 obtain ⟨i0,hi0,hz0,hz1,hz2⟩:=info_parts Tryz.infoFq
 rcases hown with ⟨rfl,rfl⟩|⟨g,o,cap,cur,rfl,hbg,hg,hle,hcap,hsz,hc⟩
 ·obtain ⟨v',w',h1,h2,h3,h4⟩:=run_append_frs w ty base 0 (.slice none 0 0) u [] L (World.ownsRow_nil _ _ _ _) hu (by simpa using hn) hb
  rw [Nat.zero_add,List.nil_append] at h2
  exact ⟨v',w',h1,OwnF.of_own h2,h3,h4⟩
 ·obtain ⟨ad,c,rfl,hf⟩:=hu
  cases ad with
  | none =>
   have hL:L=[]:=by
    cases L with
    | nil=>rfl
    | cons x r=>obtain ⟨b,off,e,-⟩:=hf 0 (by simp); cases e
   subst hL
   refine ⟨.slice (some ⟨g,o,none⟩) M.length cap,w,?_,by rw [List.append_nil]; exact .inr ⟨g,o,cap,cur,rfl,hbg,hg,hle,hcap,hsz,hc⟩,⟨rfl,rfl,rfl,Nat.le_refl _,fun _ _ _=>rfl⟩,.inl rfl⟩
   simp [Builtin.append_,run_underlying Tryz.underlying34,Go.sizeOf,typeInfo,hi0,Builtin.lenOf,Builtin.firstCells,hle,storeCells]
  | some a =>
   have hl:=frCells_length L
   by_cases hroom:M.length+L.length≤cap
   ·have hm9:=Nat.mul_le_mul_right 9 hroom
    rw [Nat.add_mul] at hm9
    have hr:=run_append_room_cells (P:=Tryz.prog) w 34 ty 104 i0 Tryz.underlying34 hi0 g o M.length cap a L.length c (frCells L) (by rw [hz1]; exact hl) hf.cells (frCells_one L) hroom
     (fun j hj=>by rw [hl] at hj; rw [hz1,cell_of_row _ _ _ _ _ _ hg,Array.getElem?_eq_getElem (by omega)]; rfl) (fun j _=>frozen_of_row _ _ _ _ _ hg)
    rw [hz1] at hr
    have hk:=kept_setCells g (frCells L) (o+M.length * 9) w
    exact ⟨_,_,hr,OwnF.splice hbg hg hroom hcap hsz hc,⟨hk.os,hk.tape,hk.output,hk.size,fun k h1 h2=>hk.block k h1 (fun e=>h2 (by rw [show k=g from e]; rfl))⟩,.inl rfl⟩
   ·have holds:∀ j u,(frCells M)[j]? = some u→w.cell? ((⟨g,o,none⟩:Addr).add j)=some u:=fun j u hj=>by
     have h1:=(List.getElem?_eq_some_iff.1 hj).1
     rw [frCells_length] at h1
     rw [addr_add,cell_of_row _ _ _ _ _ _ hg,hc j h1,hj]
    have hbytes:(M.length+L.length) * 72≤140737488355328:=by omega
    have hr:=run_append_grow (P:=Tryz.prog) w 34 ty 104 i0 _ Tryz.underlying34 hi0 hz0 ⟨g,o,none⟩ M.length cap (frCells M) (by rw [hz1]; exact frCells_length M) holds a L.length c (frCells L) (by rw [hz1]; exact hl) hf.cells (by omega) (by omega) (by rw [hz2]; exact growslice_fits (by omega) hbytes)
    refine ⟨_,_,hr,.inr ⟨w.heap.size,0,grownCap w (M.length+L.length) cap 104,_,by rw [List.length_append],hb,heap_alloc_new w.drew _,by rw [List.length_append]; exact grownCap_ge w _ _ _,grownCap_le_maxLen w _ _ _ (by unfold maxLen; omega),?_,fun j hj=>?_⟩,⟨rfl,rfl,rfl,by simp,fun k hk _=>Below.heap_alloc w.drew _ _ hk⟩,.inr rfl⟩
    ·have hge:=grownCap_ge w (M.length+L.length) cap 104
     simp only [Array.size_append,List.size_toArray,size_zeroCells,frCells_length]
     have h9:(frV 0 0 0 0 0 false 0 0 0).cells.size=9:=rfl
     first|rw [h9]|skip
     rw [Nat.zero_add,← Nat.add_mul,← Nat.add_mul]
     refine Nat.mul_le_mul_right 9 ?_
     omega
    ·rw [List.length_append,Nat.add_mul] at hj
     have hls:((frCells M).toArray ++ (frCells L).toArray).size=M.length * 9+L.length * 9:=by simp only [Array.size_append,List.size_toArray,frCells_length]
     rw [Nat.zero_add,Array.getElem?_append_left (by rw [hls]; exact hj),frCells_append,← Array.getElem?_toList]
     simp
theorem wpList_append_frsF {w:World} {ops:Array Oper} {rest:List Oper} {o:Oper} {a:Act} {Q:Exit→Act→World→Prop} (hgd:o.guard=none) (s x:Operand)
  (ho:o.op=.call { callee:=.builtin .append,args:=#[s,x],argTypes:=#[34,34] })
  (base:Nat) (v u:Value) (M L:List F9) (hs:a.eval s=v) (hx:a.eval x=u) (hown:OwnF w base v M) (hu:IsFr w u L) (hn:M.length+L.length≤1000000000000) (hb:base≤w.heap.size)
  (h:∀ ad' cap' w',OwnF w' base (.slice ad' (M.length+L.length) cap') (M ++ L)→w.grownBy w' v.ownBlock→((Value.slice ad' (M.length+L.length) cap').ownBlock=v.ownBlock ∨ (Value.slice ad' (M.length+L.length) cap').ownBlock=some w.heap.size)→wpList Tryz.prog ops Q rest (a.put o.dst (.slice ad' (M.length+L.length) cap')) w') :
  wpList Tryz.prog ops Q (o :: rest) a w:=by
 refine wpList_plain hgd fun K hK=>?_
 obtain ⟨v',w',hr,h2,h3,h5⟩:=run_append_frsF w o.type base v u M L hown hu hn hb
 unfold Oper.wp execOp
 simp only [ho,resolve,invoke,builtin,Sem.run_bind,Sem.run_pure,Result.andThen_ok,List.map_toArray,List.map_cons,List.map_nil,hs,hx,hr]
 obtain ⟨ad',cap',rfl⟩:∃ ad' cap',v'=.slice ad' (M.length+L.length) cap':=by rw [← List.length_append]; exact h2.form
 exact hK _ _ (h ad' cap' w' h2 h3 h5)
theorem grown_kept {w w':World} {row:Option Nat} (h:w.grownBy w' row):Kept (fun x=>row=some x) w w':=⟨h.os,h.tape,h.output,h.size,fun k hk hs=>h.block k hk (fun e=>hs e.symm)⟩
theorem own_lt {w:World} {e:TypeId} {size n base:Nat} {v:Value} {xs:List Value} (h:w.ownsRow base e size v n xs) {g:Nat} (hg:v.ownBlock=some g):g<w.heap.size:=(h.lt g hg).2
section
variable {w0 w w':World} {C:Nat→Nat} {X:XB} {m:Nat} {zs:List Int} {V:PX} {A:Nat→Addr}
theorem XI.send {L:List F9} (h:XI zs V m) (hL:∀ f,f∈L→FI zs.length f) (hl:L.length≤1000):XI zs (sendX V L) (m+1):=by
 refine ⟨h.he,fun i hi=>?_,fun f hf=>?_,?_,h.ev⟩
 ·have:=h.nd i hi
  exact ⟨this.gd,fun d hd=>Nat.le_succ_of_le (this.nm d hd),this.sz,this.up,this.l0,this.l1,this.ld⟩
 ·rcases List.mem_append.1 hf with g|g
  ·exact h.fr f g
  ·exact hL f g
 ·have:=h.fl
  show (V.fly ++ L).length≤_
  rw [List.length_append]; omega
theorem WD.sent {L:List F9} {v':Value} (h:WD w0 w C X zs V m) (hown:OwnF w' w0.heap.size v' (V.fly ++ L)) (hg:w.grownBy w' X.fv.ownBlock) (ho:v'.ownBlock=X.fv.ownBlock ∨ v'.ownBlock=some w.heap.size) (hL:∀ f,f∈L→FI zs.length f) (hl:L.length≤1000) :
  ∃ C',WD w0 (w'.setCell ⟨X.xb,3,none⟩ v') C' { X with fv:=v' } zs (sendX V L) (m+1)∧Kept (OwnX C) w (w'.setCell ⟨X.xb,3,none⟩ v')∧∀ x,x<w.heap.size→C' x=C x:=by
 have hk:=grown_kept hg
 have hx:=row_ltJ h.row
 have hcx:=h.cx
 have hrow:w'.heap[X.xb]? = some (.cells (wdC X zs.length).toArray 84 (0,0)):=hk.row h.row (fun e=>by have:=h.cf _ e; omega)
 have hkk:Kept (OwnX C) w (w'.setCell ⟨X.xb,3,none⟩ v'):=(hk.mono (fun x hx=>by show C x<2000; have:=h.cf x hx; omega)).setCell (show C X.xb<2000 by omega) v'
 have hr2:(w'.setCell ⟨X.xb,3,none⟩ v').heap[X.xb]? = some (.cells (wdC { X with fv:=v',ev:=X.ev } zs.length).toArray 84 (0,0)):=by
  rw [heap_setCell_same w' X.xb 3 _ _ _ hrow]; rfl
 have hf:OwnF (w'.setCell ⟨X.xb,3,none⟩ v') w0.heap.size v' (V.fly ++ L):=by
  refine hown.kept ((Kept.refl (In1 X.xb) w').set1 3 v') (fun g hgg e=>?_)
  rcases ho with o|o
  ·rw [hgg] at o
   have:=h.cf g o.symm
   rw [show g=X.xb from e] at this; omega
  ·rw [hgg] at o
   have:=Option.some.inj o
   rw [show g=X.xb from e] at this; omega
 have he:(w'.setCell ⟨X.xb,3,none⟩ v').ownsRow w0.heap.size 75 3 X.ev V.evs.length (evCells V.evs) :=
  own_kept h.evs ((hk.mono (fun x hx=>.inr hx)).setCell (S:=fun x=>x=X.xb ∨ X.fv.ownBlock=some x) (.inl rfl) v') (fun g hg e=>by
   have h6:=h.ce g hg
   rcases e with rfl|e
   ·omega
   ·have:=h.cf g e; omega)
 have hS:∀ x,(x=X.xb ∨ X.fv.ownBlock=some x)→C x=1001 ∨ C x=1005 ∨ C x=1006:=fun x hx=>by
  rcases hx with rfl|hx
  ·exact .inl h.cx
  ·exact .inr (.inl (h.cf x hx))
 have hK2:Kept (fun x=>x=X.xb ∨ X.fv.ownBlock=some x) w (w'.setCell ⟨X.xb,3,none⟩ v'):=(hk.mono (fun x hx=>.inr hx)).setCell (.inl rfl) v'
 rcases ho with o|o
 ·refine ⟨C,?_,hkk,fun _ _=>rfl⟩
  exact h.own (fv:=v') (ev:=X.ev) (F:=V.fly ++ L) (E:=V.evs) hK2 hS (fun _ _=>rfl) (fun x hx hc=>by have:=h.lt x hc; omega) hr2 hf he (fun g hgg=>h.cf g (by rw [← o]; exact hgg)) h.ce (Nat.le_succ _) (h.inv.send hL hl)
 ·have hlt:w.heap.size<w'.heap.size:=(hown.lt _ o).2
  have hC:∀ x,x<w.heap.size→paint C w.heap.size 1005 x=C x:=fun x hx=>paint_ne (by omega)
  refine ⟨paint C w.heap.size 1005,?_,hkk,hC⟩
  refine h.own (fv:=v') (ev:=X.ev) (F:=V.fly ++ L) (E:=V.evs) hK2 hS hC (fun x hx hc=>?_) hr2 hf he (fun g hgg=>?_) (fun g hgg=>?_) (Nat.le_succ _) (h.inv.send hL hl)
  ·by_cases e:x=w.heap.size
   ·rw [e]; simpa using hlt
   ·rw [paint_ne e] at hc
    have:=h.lt x hc; omega
  ·rw [o] at hgg
   obtain rfl:=Option.some.inj hgg
   exact paint_at _ _ _
  ·have:=own_lt h.evs hgg
   rw [hC g this]
   exact h.ce g hgg
theorem send_any (v:Value) (L:List F9) (h:WD w0 w C X zs V m) (hv:IsFr w v L) (hL:∀ f,f∈L→FI zs.length f) (hl:L.length≤1000) (hm:m≤100000000) :
  Calls Tryz.prog 57 #[.pointer (some ⟨X.xb,0,none⟩),v] w fun e w'=>e=.returned (.tuple #[])∧∃ C' v',WD w0 w' C' { X with fv:=v' } zs (sendX V L) (m+1)∧Kept (OwnX C) w w'∧∀ x,x<w.heap.size→C' x=C x:=by
 obtain ⟨-,-,-,c3,-⟩:=h.cells
 have z3:=h.fz 3
 have H:=hid h
 have HV:=hid hv
 have HL:=hid hL
 have hfl:V.fly.length+L.length≤1000000000000:=by have:=h.inv.fl; omega
 have HO:=hid h.fly
 have hbs:=h.bel.size
 have hb:=row_ltJ h.row
 have HX:Hid (∀ w',w.grownBy w' X.fv.ownBlock→w'.cell? ⟨X.xb,3,none⟩=some X.fv∧w'.frozen? ⟨X.xb,3,none⟩=false):=by
  intro w' hg
  have hr:=(grown_kept hg).row h.row (fun e=>by have h1:=h.cf _ e; have h2:=h.cx; omega)
  exact ⟨by rw [cell_of_row _ _ _ _ _ _ hr]; rfl,frozen_of_row _ _ _ _ _ hr⟩
 generalize hfv:X.fv=fv at c3 HO
 have HFV:=hid hfv
 clear h hv hL hfv
 go_enter Tryz.func57,Tryz.ntmps57
 go_wp2_with (at_builtin; refine wpList_append_frsF rfl _ _ rfl w0.heap.size _ v V.fly L rfl rfl HO.out HV.out hfl hbs ?_; intro ad' cap' w' hown hg ho; obtain ⟨c3',z3'⟩:=HX.out w' (by rw [HFV.out]; exact hg); have HS:=hid (And.intro hown (And.intro hg ho)); clear hown hg ho)
 go_end0
 rw [← HFV.out] at HS
 obtain ⟨C',h1,h2,h3⟩:=H.out.sent HS.out.1 HS.out.2.1 HS.out.2.2 HL.out hl
 exact ⟨rfl,C',_,h1,h2,h3⟩
end
end Go.Proofs.YtadhpkopkkjmfaaGreatDoor
