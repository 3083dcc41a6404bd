/-
  On the way to WStepsProof, WCommitsProof, WAgreesProof, WEndsProof, WWaitsProof, JTampersProof, PAgreesProof, PAgainProof: VL VM VN.
-/
import Derived.Test.YtadhpkopkkjmfaaGreatDoorBz40
import Derived.Test.YtadhpkopkkjmfaaGreatDoorBz39
set_option maxHeartbeats 8000000
set_option maxRecDepth 100000
namespace Go.Proofs.YtadhpkopkkjmfaaGreatDoor
open Go.RowKit
theorem Tryz.infoEv:(Tryz.prog.info? 75).map (fun i=>(i.zero,i.size,i.bytes))=some (some (.agg #[.int .i64 0,.int .i64 0,.int .i64 0]),3,24):=by kernel_rfl
theorem evCells_length (L:List E3):(evCells L).length=L.length * 3:=by
 unfold evCells
 induction L with
 | nil=>rfl
 | cons x r ih=>rw [List.flatMap_cons,List.length_append,ih]; simp [e3L]; omega
theorem e3_one (x:E3):∀ u∈e3L x,u.oneCell'=true:=by
 intro u hu
 simp [e3L] at hu
 rcases hu with rfl|rfl|rfl <;> rfl
theorem known_ag {w:World} {s j mb p n:Nat} {id:Int} {R:Nat→Bool} {E:Nat→Nat×St} {over:Bool} (d h1 h2 h3:Nat) (hj:JR w j p E over) (h:SR w s j mb id R n) (hd:d<6) (hs:(E d).2=⟨h1,h2,h3⟩) :
  Calls Tryz.prog 83 #[.pointer (some ⟨s,0,none⟩),.int .i64 (d:Int)] w fun e w'=>e=.returned (.agg #[.int .i64 (h1:Int),.int .i64 (h2:Int),.int .i64 (h3:Int)])∧Below w.heap.size w w':=known_is d h1 h2 h3 hj h hd hs
theorem phase_of (a b c:Value) (w:World):(Instr.field 43 (.agg #[a,b,c]) 0).run Tryz.prog w=.ok a w:=by
 first|rfl|go_simp|kernel_rfl
theorem wpList_append_ev {w:World} {ops:Array Oper} {rest:List Oper} {o:Oper} {a:Act} {Q:Exit→Act→World→Prop} (hgd:o.guard=none) (s x:Operand)
  (ho:o.op=.call { callee:=.builtin .append,args:=#[s,x],argTypes:=#[45,45] })
  (base n:Nat) (v:Value) (ad:Addr) (c:Nat) (xs:List Value) (e:E3) (hs:a.eval s=v) (hx:a.eval x=.slice (some ad) 1 c) (hown:w.ownsRow base 75 3 v n xs) (hu:∀ j u,(e3L e)[j]? = some u→w.cell? (ad.add j)=some u) (hn:n≤1000000000000) (hb:base≤w.heap.size)
  (h:∀ ad' cap' w',w'.ownsRow base 75 3 (.slice ad' (n+1) cap') (n+1) (xs ++ e3L e)→w.grownBy w' v.ownBlock→((Value.slice ad' (n+1) cap').ownBlock=v.ownBlock ∨ (Value.slice ad' (n+1) cap').ownBlock=some w.heap.size)→wpList Tryz.prog ops Q rest (a.put o.dst (.slice ad' (n+1) cap')) w') :
  wpList Tryz.prog ops Q (o :: rest) a w:=by
 obtain ⟨i0,hi0,hz0,hz1,hz2⟩:=info_parts Tryz.infoEv
 refine wpList_append_own_at w hgd s x 45 ho base 75 i0 _ 3 24 Tryz.underlying45 hi0 hz0 hz1 hz2 rfl (by decide) v n xs hs hown ad 1 c (e3L e) hx rfl hu (e3_one e) (by unfold maxLen; omega) (by omega) hb ?_
 intro v' w' h2 h3 _ h5
 obtain ⟨ad',cap',rfl⟩:∃ ad' cap',v'=.slice ad' (n+1) cap':=by
  rcases h2.2 with ⟨e,h0⟩|⟨g,cap,cur,e,-⟩
  ·exact ⟨none,0,by rw [e,h0]⟩
  ·exact ⟨_,_,e⟩
 exact h ad' cap' w' h2 h3 h5
section
variable {w0 w w':World} {C:Nat→Nat} {X:XB} {m:Nat} {zs:List Int} {V:PX} {A:Nat→Addr}
theorem XI.noted {e:E3} (h:XI zs V m) (hl:V.evs.length<500):XI zs { V with evs:=V.evs ++ [e] } (m+1) :=
 ⟨h.he,fun i hi=>(h.nd i hi).mono (Nat.le_succ _),h.fr,by have:=h.fl; show V.fly.length≤_; omega,by show (V.evs ++ [e]).length≤500; rw [List.length_append]; exact hl⟩
theorem WD.noted {e:E3} {v':Value} (h:WD w0 w C X zs V m) (hown:w'.ownsRow w0.heap.size 75 3 v' (V.evs.length+1) (evCells V.evs ++ e3L e)) (hg:w.grownBy w' X.ev.ownBlock) (ho:v'.ownBlock=X.ev.ownBlock ∨ v'.ownBlock=some w.heap.size) (hl:V.evs.length<500) :
  WOut w0 w (w'.setCell ⟨X.xb,4,none⟩ v') C X zs { V with evs:=V.evs ++ [e] } (m+1):=by
 have hk:=grown_kept hg
 have hx:=row_ltJ h.row
 have hcx:=h.cx
 have hrow:w'.heap[X.xb]? = some (.cells (wdC X zs.length).toArray 84 (0,0)):=hk.row h.row (fun e=>by have:=h.ce _ e; omega)
 have hkk:Kept (OwnX C) w (w'.setCell ⟨X.xb,4,none⟩ v'):=(hk.mono (fun x hx=>by show C x<2000; have:=h.ce x hx; omega)).setCell (show C X.xb<2000 by omega) v'
 have hr2:(w'.setCell ⟨X.xb,4,none⟩ v').heap[X.xb]? = some (.cells (wdC { X with fv:=X.fv,ev:=v' } zs.length).toArray 84 (0,0)):=by
  rw [heap_setCell_same w' X.xb 4 _ _ _ hrow]; rfl
 have hf:(w'.setCell ⟨X.xb,4,none⟩ v').ownsRow w0.heap.size 75 3 v' (V.evs ++ [e]).length (evCells (V.evs ++ [e])):=by
  rw [List.length_append,show evCells (V.evs ++ [e])=evCells V.evs ++ e3L e by simp [evCells]]
  refine own_kept hown ((Kept.refl (In1 X.xb) w').set1 4 v') (fun g hgg e=>?_)
  rcases ho with o|o
  ·rw [hgg] at o
   have:=h.ce g o.symm
   rw [show g=X.xb from e] at this; omega
  ·rw [hgg] at o
   have:=Option.some.inj o
   rw [show g=X.xb from e] at this; omega
 have hK2:Kept (fun x=>x=X.xb ∨ X.ev.ownBlock=some x) w (w'.setCell ⟨X.xb,4,none⟩ v'):=(hk.mono (fun x hx=>.inr hx)).setCell (.inl rfl) v'
 have he:OwnF (w'.setCell ⟨X.xb,4,none⟩ v') w0.heap.size X.fv V.fly :=
  h.fly.kept hK2 (fun g hg e=>by
   have h6:=h.cf g hg
   rcases e with rfl|e
   ·omega
   ·have:=h.ce g e; omega)
 have hS:∀ x,(x=X.xb ∨ X.ev.ownBlock=some x)→C x=1001 ∨ C x=1005 ∨ C x=1006:=fun x hx=>by
  rcases hx with rfl|hx
  ·exact .inl h.cx
  ·exact .inr (.inr (h.ce x hx))
 rcases ho with o|o
 ·refine ⟨C,{ X with ev:=v' },?_,rfl,hkk,fun _ _=>rfl⟩
  exact h.own (fv:=X.fv) (ev:=v') (F:=V.fly) (E:=V.evs ++ [e]) hK2 hS (fun _ _=>rfl) (fun x hx hc=>by have:=h.lt x hc; omega) hr2 he hf h.cf (fun g hgg=>h.ce g (by rw [← o]; exact hgg)) (Nat.le_succ _) (h.inv.noted hl)
 ·have hlt:w.heap.size<w'.heap.size:=own_lt hown o
  have hC:∀ x,x<w.heap.size→paint C w.heap.size 1006 x=C x:=fun x hx=>paint_ne (by omega)
  refine ⟨paint C w.heap.size 1006,{ X with ev:=v' },?_,rfl,hkk,hC⟩
  refine h.own (fv:=X.fv) (ev:=v') (F:=V.fly) (E:=V.evs ++ [e]) hK2 hS hC (fun x hx hc=>?_) hr2 he hf (fun g hgg=>?_) (fun g hgg=>?_) (Nat.le_succ _) (h.inv.noted hl)
  ·by_cases e:x=w.heap.size
   ·rw [e]; simpa using hlt
   ·rw [paint_ne e] at hc
    have:=h.lt x hc; omega
  ·have:=(h.fly.lt _ hgg).2
   rw [hC g this]
   exact h.cf g hgg
  ·rw [o] at hgg
   obtain rfl:=Option.some.inj hgg
   exact paint_at _ _ _
theorem note_not (s d was is h2 h3:Nat) (h:WD w0 w C X zs V m) (hs:s<zs.length) (hd:d<6) (hst:stN (V.nd s) d=⟨is,h2,h3⟩) (hn:¬ (is≠was∧finB is=true∧V.evs.length<500)) :
  Calls Tryz.prog 82 #[.pointer (some ⟨X.xb,0,none⟩),.int .i64 (s:Int),.int .i64 (d:Int),.int .i64 (was:Int)] w fun e w'=>e=.returned (.tuple #[])∧Below w.heap.size w w':=by
 obtain ⟨-,c1,-,-,c4⟩:=h.cells
 have c2:=h.ns s hs
 have c3:=(h.nds s hs).site
 have H:=hid h
 have HS:=hid hs
 have HST:=hid hst
 obtain ⟨n,hn7⟩:∃ n,Hid (zs.length=n):=⟨_,rfl⟩
 have n7:=h.n7
 rw [hn7.out] at c1 hs n7
 obtain ⟨ne,hne⟩:∃ ne,Hid (V.evs.length=ne):=⟨_,rfl⟩
 obtain ⟨ad,cap,hv⟩:∃ ad cap,Hid (X.ev=.slice ad ne cap):=by
  rw [← hne.out]
  rcases h.evs.2 with ⟨e,h0⟩|⟨g,cap,cur,e,-⟩
  ·exact ⟨none,0,by rw [e,h0]; exact rfl⟩
  ·exact ⟨_,_,e⟩
 rw [hv.out] at c4
 rw [hne.out] at hn
 have h500:=h.inv.ev
 rw [hne.out] at h500
 obtain ⟨fb,HF⟩:∃ fb,Hid (finB is=fb):=⟨_,rfl⟩
 rw [HF.out] at hn
 have HN:=hid hn
 clear h hst hn
 have hph:∀ w,(Instr.field 43 (.agg #[.int .i64 (is:Int),.int .i64 (h2:Int),.int .i64 (h3:Int)]) 0).run Tryz.prog w=.ok (.int .i64 (is:Int)) w:=fun w=>phase_of _ _ _ w
 go_enter Tryz.func82,Tryz.ntmps82
 go_wp2_with fail
 refine (known_ag d is h2 h3 (H.out.nds s HS.out).sp.jp.jr (H.out.nds s HS.out).sp.sr hd HST.out).mono ?_
 rintro e w1 ⟨rfl,hb⟩
 have HB:=hid hb
 have d4:=cell_later hb c4
 clear hb
 by_cases g1:is=was
 ·subst g1
  go_wp2_with fail
  go_end0
  exact ⟨rfl,HB.out⟩
 ·have g2:¬ (is:Int)=was:=by omega
  have g3:((is:Int) != was)=true:=bne_iff_ne.2 g2
  cases fb with
  | false =>
   go_wp2_with (go_at_call 110; refine (wisEnd_is is false _ HF.out).mono ?_; rintro e w2 ⟨rfl,hx⟩; subst w2)
   go_end0
   exact ⟨rfl,HB.out⟩
  | true =>
   have g5:¬ ne<500:=fun g=>HN.out ⟨g1,rfl,g⟩
   obtain rfl:ne=500:=by omega
   go_wp2_with (go_at_call 110; refine (wisEnd_is is true _ HF.out).mono ?_; rintro e w2 ⟨rfl,hx⟩; subst w2)
   go_end0
   exact ⟨rfl,HB.out⟩
theorem note_yes (s d was is h2 h3:Nat) (h:WD w0 w C X zs V m) (hs:s<zs.length) (hd:d<6) (hst:stN (V.nd s) d=⟨is,h2,h3⟩) (hn:is≠was∧finB is=true∧V.evs.length<500) :
  Calls Tryz.prog 82 #[.pointer (some ⟨X.xb,0,none⟩),.int .i64 (s:Int),.int .i64 (d:Int),.int .i64 (was:Int)] w fun e w'=>e=.returned (.tuple #[])∧WOut w0 w w' C X zs { V with evs:=V.evs ++ [⟨s,d,is⟩] } (m+1):=by
 obtain ⟨-,c1,-,-,c4⟩:=h.cells
 have c2:=h.ns s hs
 have c3:=(h.nds s hs).site
 have H:=hid h
 have HS:=hid hs
 have HST:=hid hst
 obtain ⟨n,hn7⟩:∃ n,Hid (zs.length=n):=⟨_,rfl⟩
 have n7:=h.n7
 rw [hn7.out] at c1 hs n7
 obtain ⟨ne,hne⟩:∃ ne,Hid (V.evs.length=ne):=⟨_,rfl⟩
 obtain ⟨ad,cap,hv⟩:∃ ad cap,Hid (X.ev=.slice ad ne cap):=by
  rw [← hne.out]
  rcases h.evs.2 with ⟨e,h0⟩|⟨g,cap,cur,e,-⟩
  ·exact ⟨none,0,by rw [e,h0]; exact rfl⟩
  ·exact ⟨_,_,e⟩
 rw [hv.out] at c4
 rw [hne.out] at hn
 obtain ⟨g1,hf,g5⟩:=hn
 have HF:=hid hf
 have g2:¬ (is:Int)=was:=by omega
 have g3:((is:Int) != was)=true:=bne_iff_ne.2 g2
 have hb0:=h.bel.size
 clear h hst hf
 have hph:∀ w,(Instr.field 43 (.agg #[.int .i64 (is:Int),.int .i64 (h2:Int),.int .i64 (h3:Int)]) 0).run Tryz.prog w=.ok (.int .i64 (is:Int)) w:=fun w=>phase_of _ _ _ w
 go_enter Tryz.func82,Tryz.ntmps82
 go_wp2_with fail
 refine (known_ag d is h2 h3 (H.out.nds s HS.out).sp.jp.jr (H.out.nds s HS.out).sp.sr hd HST.out).mono ?_
 rintro e w1 ⟨rfl,hb⟩
 have HB:=hid hb
 have d4:=cell_later hb c4
 have H1:=hid (H.out.later hb)
 have hb1:=hb.size
 clear hb
 obtain ⟨W2,HW2⟩:∃ W2,Hid (w1.alloc (.cells #[.int .i64 (s:Int),.int .i64 (d:Int),.int .i64 (is:Int)] 75)=W2):=⟨_,rfl⟩
 have hW2:=HW2.out
 have HB2:Hid (Below w1.heap.size w1 W2):=by rw [← HW2.out]; exact (Below.refl _ _).alloc (Nat.le_refl _) _
 have HL:Hid (∀ j u,(e3L ⟨s,d,is⟩)[j]? = some u→W2.cell? ((⟨w1.heap.size,0,none⟩:Addr).add j)=some u):=by rw [← HW2.out]; exact lit_cellsQ w1 75 (e3L ⟨s,d,is⟩)
 have H2:=hid (H1.out.later HB2.out)
 have hb2:=HB2.out.size
 have HO:Hid (W2.ownsRow w0.heap.size 75 3 (.slice ad ne cap) ne (evCells V.evs)):=by have:=H2.out.evs; rw [hv.out,hne.out] at this; exact this
 have HX:Hid (∀ w',W2.grownBy w' (Value.slice ad ne cap).ownBlock→w'.cell? ⟨X.xb,4,none⟩=some (.slice ad ne cap)∧w'.frozen? ⟨X.xb,4,none⟩=false):=by
  intro w' hg
  have hr:=(grown_kept hg).row H2.out.row (fun e=>by rw [← hv.out] at e; have h1:=H2.out.ce _ e; have h2:=H2.out.cx; omega)
  exact ⟨by rw [cell_of_row _ _ _ _ _ _ hr,← hv.out]; rfl,frozen_of_row _ _ _ _ _ hr⟩
 go_wp2_with (first|(go_at_call 110; refine (wisEnd_is is true _ HF.out).mono ?_; rintro e w2 ⟨rfl,hx⟩; subst w2)|(at_builtin; refine wpList_append_ev rfl _ _ rfl w0.heap.size ne (.slice ad ne cap) ⟨w1.heap.size,0,none⟩ 1 (evCells V.evs) ⟨s,d,is⟩ rfl rfl HO.out HL.out (by omega) (by omega) ?_; intro ad' cap' w' hown hg ho; obtain ⟨c4',z4'⟩:=HX.out w' hg; have HSS:=hid (And.intro hown (And.intro hg ho)); clear hown hg ho))
 go_end0
 refine ⟨rfl,?_⟩
 rw [← hv.out] at HSS
 rw [← hne.out] at HSS ⊢
 exact WOut.step rfl (Kept.of_below (HB.out.trans (HB2.out.mono HB.out.size))) (fun _ _=>rfl) (H2.out.noted HSS.out.1 HSS.out.2.1 HSS.out.2.2 (by rw [hne.out]; exact g5))
end
def FrF (w:World) (C:Nat→Nat) (base:Nat) (v:Value) (L:List F9):Prop:=∃ ad cap,v=.slice ad L.length cap∧FL w ad L∧(L≠[]→∀ p,ad=some p→2000≤C p.block∧p.block<w.heap.size∧base≤p.block)
theorem FrF.fr {w:World} {C:Nat→Nat} {base:Nat} {v:Value} {L:List F9} (h:FrF w C base v L):IsFr w v L:=by
 obtain ⟨ad,cap,e,hf,-⟩:=h
 exact ⟨ad,cap,e,hf⟩
theorem FrF.mono {w:World} {C:Nat→Nat} {base B:Nat} {v:Value} {L:List F9} (h:FrF w C base v L) (hB:B≤base):FrF w C B v L:=by
 obtain ⟨ad,cap,e,hf,hg⟩:=h
 exact ⟨ad,cap,e,hf,fun hne p hp=>⟨(hg hne p hp).1,(hg hne p hp).2.1,Nat.le_trans hB (hg hne p hp).2.2⟩⟩
theorem FrF.kept {w w':World} {C C':Nat→Nat} {base:Nat} {v:Value} {L:List F9} (h:FrF w C base v L) (k:Kept (OwnX C) w w') (hC:∀ x,x<w.heap.size→C' x=C x):FrF w' C' base v L:=by
 obtain ⟨ad,cap,e,hf,hg⟩:=h
 refine ⟨ad,cap,e,fun i hi=>?_,fun hne p hp=>?_⟩
 ·obtain ⟨b,off,ha,hc⟩:=hf i hi
  refine ⟨b,off,ha,fun j hj=>?_⟩
  have h2:=hc j hj
  have h3:(f9L (L[i]'hi))[j]? = some ((f9L (L[i]'hi))[j]'(by rw [f9L_length]; exact hj)):=List.getElem?_eq_getElem _
  rw [h3] at h2 ⊢
  have hne:L≠[]:=fun e=>by rw [e] at hi; exact absurd hi (Nat.not_lt_zero _)
  exact cell_kept h2 k (fun hs=>by have h5:=(hg hne _ ha).1; have h6:C b<2000:=hs; have h7:2000≤C b:=h5; omega)
 ·have:=hg hne p hp
  exact ⟨by rw [hC _ this.2.1]; exact this.1,Nat.lt_of_lt_of_le this.2.1 k.size,this.2.2⟩
theorem FrF.nil (w:World) (C:Nat→Nat) (base:Nat):FrF w C base (.slice none 0 0) []:=⟨none,0,rfl,FL.nil _ _,fun _ p hp=>by cases hp⟩
theorem FrF.of_b {w:World} {C:Nat→Nat} {base:Nat} {v:Value} {L:List F9} (h:FrB base w v L) (hC:∀ x,base≤x→2000≤C x):FrF w C base v L:=by
 obtain ⟨ad,cap,e,hf,hg⟩:=h
 refine ⟨ad,cap,e,hf,fun hne p hp=>⟨hC _ (hg p hp),?_,hg p hp⟩⟩
 cases L with
 | nil=>exact (hne rfl).elim
 | cons x r =>
  obtain ⟨b,off,ha,hc⟩:=hf 0 (by simp)
  rw [ha] at hp
  obtain rfl:=Option.some.inj hp
  have h2:=hc 0 (by decide)
  rw [show off+0 * 9+0=off by omega] at h2
  exact cell_lt (v:=.int .i64 x.f) (h2.trans rfl)
section
variable {w0 w w':World} {C:Nat→Nat} {K:NB} {X:XB} {i m m':Nat} {zs:List Int} {N:PN} {V V':PX} {A:Nat→Addr}
def WOutF (w0 w w':World) (C:Nat→Nat) (X:XB) (zs:List Int) (V':PX) (m':Nat) (v:Value) (L:List F9):Prop :=
 ∃ C' X',WD w0 w' C' X' zs V' m'∧key X'=key X∧Kept (OwnX C) w w'∧(∀ x,x<w.heap.size→C' x=C x)∧FrF w' C' w.heap.size v L
theorem ND.hear {o:POut} (h:ND w0 w C K i zs N m) (hs:SP w0 w' K.s K.j K.mb K.p K.q i N.R m o.e o.over o.b o.l) (he:o.e=dealL o.b.data.toList) (hk:Kept (In3 K.j K.p K.q) w w'):ND w0 w' C K i zs { N with B:=o.b,l:=o.l,over:=o.over } m:=by
 have e1:=h.cs; have e2:=h.cj; have e3:=h.cm; have e4:=h.cp; have e5:=h.cq; have e6:=h.cn
 have nS:∀ x,C x≠100 * i+3→C x≠100 * i+5→C x≠100 * i+6→¬ In3 K.j K.p K.q x:=fun x g1 g2 g3 hx=>by
  rcases hx with rfl|rfl|rfl
  ·exact g1 e2
  ·exact g2 e4
  ·exact g3 e5
 refine ⟨hk.row h.row (nS _ (by omega) (by omega) (by omega)),?_,fun d hd x hx=>?_,h.cn,h.cs,h.cj,h.cm,h.cp,h.cq,h.cl,h.n0⟩
 ·rw [he] at hs; exact hs
 ·have g:=h.cl d hd x hx
  exact (h.lds d hd x hx).kept hk (nS _ (by omega) (by omega) (by omega)) (nS _ (by omega) (by omega) (by omega))
theorem AnsV.frf {v:Value} {id:Nat} {f:F9} {c:Nat} {g:HOut} {base:Nat} (h:AnsV w v c id f.f f.d f.a g) (hf:∀ a cp,v=.slice (some a) 1 cp→base≤a.block) (hC:∀ x,base≤x→2000≤C x):FrF w C base v (if c=0∧g.k≠0 then [⟨id,f.f,f.d,g.k,f.a,g.yes,g.st.ph,g.st.pr,g.st.at_⟩] else []):=by
 unfold AnsV at h
 split
 ·rename_i hc
  rw [if_pos hc] at h
  obtain ⟨b,cp,rfl,hr⟩:=h
  refine ⟨_,cp,rfl,fun i hi=>⟨b,0,rfl,fun j hj=>?_⟩,fun _ p hp=>?_⟩
  ·obtain rfl:i=0:=by simpa using hi
   rw [cell_of_row _ _ _ _ _ _ hr]
   show (ansC id f.f f.d f.a g)[0+0 * 9+j]? = _
   rw [show 0+0 * 9+j=j by omega,show ansC id f.f f.d f.a g=(f9L ⟨id,f.f,f.d,g.k,f.a,g.yes,g.st.ph,g.st.pr,g.st.at_⟩).toArray from rfl,List.getElem?_toArray]
   rfl
  ·obtain rfl:=Option.some.inj hp
   exact ⟨hC _ (hf _ _ rfl),row_ltJ hr,hf _ _ rfl⟩
 ·rename_i hc
  rw [if_neg hc] at h
  subst h
  exact FrF.nil _ _ _
theorem ansN_fi {n id:Nat} {f:F9} (hN:NI n N m) (hu:N.l≠-2) (hf:FI n f) (hm:m<4000000000) (ht:f.t=id):∀ x,x∈ansN id N f→FI n x:=by
 intro x hx
 have hh:=hearN_hf hN hu hf hm
 unfold ansN at hx
 split at hx
 ·rename_i hc
  rw [List.mem_singleton] at hx
  subst hx
  obtain ⟨g1,g2,g3⟩:=hh.good
  obtain ⟨o1,o2,o3,o4,o5,o6⟩:=hf.ok
  have hk:(gHN N f).k≤7:=by
   unfold gHN hearL
   repeat' split
   all_goals simp
  have h0:=hf.t0; have h1:=hf.t1
  refine ⟨by show (0:Int)≤id; omega,by show (id:Int)<n; omega,hf.f0,hf.f1,⟨by show (0:Int)≤id∧(id:Int)≤6; omega,o1,o3,?_,o5,⟨?_,?_,?_⟩⟩⟩
  ·show 1≤((gHN N f).k:Int)∧((gHN N f).k:Int)≤7
   omega
  ·show 0≤((gHN N f).st.ph:Int)∧((gHN N f).st.ph:Int)≤5
   omega
  ·show 0≤((gHN N f).st.pr:Int)∧((gHN N f).st.pr:Int)≤1048576
   omega
  ·show 0≤((gHN N f).st.at_:Int)∧((gHN N f).st.at_:Int)≤1048576
   omega
 ·cases hx
theorem ansN_len {id:Nat} {f:F9}:(ansN id N f).length≤1:=by
 unfold ansN
 split
 ·exact Nat.le_refl _
 ·exact Nat.zero_le _
theorem ev_nil (A:Nat→Addr):ev A 0=.nilIface:=rfl
theorem ev_off (A:Nat→Addr):ev A 6=.iface 276 (.pointer (some (A 5))):=rfl
theorem eq_nil (a:Addr) (w:World):(binOp .eql 28 .nilIface (.iface 276 (.pointer (some a)))).run Tryz.prog w=.ok (.bool false) w:=by
 first|rfl|go_simp
theorem eq_off (a:Addr) (w:World):(binOp .eql 28 (.iface 276 (.pointer (some a))) (.iface 276 (.pointer (some a)))).run Tryz.prog w=.ok (.bool true) w:=by
 obtain ⟨i,hi,hcmp⟩:=Option.map_eq_some_iff.1 compErrS
 obtain ⟨j,hj,hjs⟩:=Option.map_eq_some_iff.1 sizeErrS
 exact run_eql_iface_ptr_same (P:=Tryz.prog) w a Tryz.underlying28 Tryz.underlying276 hi hcmp hj
theorem hearN_B (N:PN) (f:F9):(hearN N f).B=(oHN N f).b:=by unfold hearN; split <;> rfl
theorem hearN_0 {N:PN} {f:F9} (h:(oHN N f).c=0):hearN N f={ N with B:=(oHN N f).b,l:=(oHN N f).l,over:=(oHN N f).over }:=by unfold hearN; rw [if_neg (by omega)]
theorem hearN_6 {N:PN} {f:F9} (h:(oHN N f).c=6):hearN N f=fallN { N with B:=(oHN N f).b,l:=(oHN N f).l,over:=(oHN N f).over }:=by unfold hearN; rw [if_pos h]; rfl
def frN (f t d k a:Nat) (y:Bool) (ph pr pa:Nat):F9:=⟨f,t,d,k,a,y,ph,pr,pa⟩
theorem whear_any (f d k a ph pr pa:Nat) (y:Bool) (F:F9) (hF:F=frN f i d k a y ph pr pa) (h:WD w0 w C X zs V m) (hE:Held9 w0 A) (hi:i<zs.length) (hu:(V.nd i).l≠-2) (hf:FI zs.length F) (hm:m<1000000) :
  Calls Tryz.prog 109 #[.pointer (some ⟨X.xb,0,none⟩),frV (f:Int) (i:Int) (d:Int) (k:Int) (a:Int) y (ph:Int) (pr:Int) (pa:Int)] w fun e w'=>∃ v,e=.returned v∧WOutF w0 w w' C X zs (hearX V i F) (m+2) v (ansN i (V.nd i) F):=by
 have hd:d<6:=by have:=hf.ok.2.2.1; rw [hF] at this; have:(0:Int)≤d∧(d:Int)≤5:=this; omega
 obtain ⟨W,HW⟩:∃ W,Hid (w.alloc (.cells #[.int .i64 (f:Int),.int .i64 (i:Int),.int .i64 (d:Int),.int .i64 (k:Int),.int .i64 (a:Int),.bool y,.int .i64 (ph:Int),.int .i64 (pr:Int),.int .i64 (pa:Int)] 104)=W):=⟨_,rfl⟩
 have HB:Hid (Below w.heap.size w W):=by rw [← HW.out]; exact (Below.refl _ _).alloc (Nat.le_refl _) _
 have HR:Hid (W.heap[w.heap.size]? = some (.cells #[.int .i64 (f:Int),.int .i64 (i:Int),.int .i64 (d:Int),.int .i64 (k:Int),.int .i64 (a:Int),.bool y,.int .i64 (ph:Int),.int .i64 (pr:Int),.int .i64 (pa:Int)] 104 (0,0))):=by rw [← HW.out]; exact heap_alloc_new w _
 obtain ⟨b0,b1,b2,b3,b4,b5,b6,b7,b8⟩:=nine HR.out
 have H0:=hid h
 have H1:=hid (h.later HB.out)
 have HE:=hid hE
 have HI:=hid hi
 have HU:=hid hu
 have HFI:=hid hf
 have HF:=hid hF
 obtain ⟨-,c1,-,-,-⟩:=H1.out.cells
 have c2:=H1.out.ns i hi
 have c3:=(H1.out.nds i hi).site
 obtain ⟨n,hn7⟩:∃ n,Hid (zs.length=n):=⟨_,rfl⟩
 have n7:=h.n7
 rw [hn7.out] at c1 hi n7
 obtain ⟨⟨was,t2,t3⟩,HST⟩:∃ x,Hid (stN (V.nd i) d=x):=⟨_,rfl⟩
 have HST2:Hid ((dlN (V.nd i) d).2=⟨was,t2,t3⟩):=HST.out
 have hph:∀ w,(Instr.field 43 (.agg #[.int .i64 (was:Int),.int .i64 (t2:Int),.int .i64 (t3:Int)]) 0).run Tryz.prog w=.ok (.int .i64 (was:Int)) w:=fun w=>phase_of _ _ _ w
 have hW:=HW.out
 clear h hE hu hf hF
 go_enter Tryz.func109,Tryz.ntmps109
 go_wp2_with fail
 go_quiet (fail)
 rename_i nq
 obtain ⟨W2,HW2⟩:∃ W2,Hid (W.drewN nq=W2):=⟨_,rfl⟩
 have HB2:Hid (Below w.heap.size w W2):=by rw [← HW2.out]; exact below_drewN HB.out nq
 have hW2:=HW2.out
 rw [hW2]
 clear hW2 b0 b1 b2 b3 b4 b5 b6 b7 b8 c1 c2 c3 hW
 have HR2:Hid (W2.heap[w.heap.size]? = some (.cells #[.int .i64 (f:Int),.int .i64 (i:Int),.int .i64 (d:Int),.int .i64 (k:Int),.int .i64 (a:Int),.bool y,.int .i64 (ph:Int),.int .i64 (pr:Int),.int .i64 (pa:Int)] 104 (0,0))):=by rw [← HW2.out]; exact HR.out
 obtain ⟨b0,b1,b2,b3,b4,b5,b6,b7,b8⟩:=nine HR2.out
 have H2:=hid (H0.out.later HB2.out)
 have c3:=(H2.out.nds i HI.out).site
 go_wp2_with fail
 go_region_held3 (fun V=>V.cell? ⟨(X.K i).nd,0,none⟩=some (.pointer (some ⟨(X.K i).s,0,none⟩))∧V.cell? ⟨w.heap.size,2,none⟩=some (.int .i64 (d:Int))) (go_keep) (first|(go_at_call 83; (with_reducible refine (known_ag d was t2 t3 (H2.out.drew.nds i HI.out).sp.jp.jr (H2.out.drew.nds i HI.out).sp.sr hd HST2.out).mono ?_); rintro e w3 ⟨rfl,hb3⟩; have q1:=cell_later hb3 c3; have q2:=cell_later hb3 b2; have HB3:=hid (HB2.out.drew.trans (hb3.mono HB2.out.size)); have HR3:=hid ((hb3.block _ (row_ltJ HR2.out)).trans HR2.out); clear hb3))
 go_wp2_with fail
 clear q1 q2 c3 b0 b1 b2 b3 b4 b5 b6 b7 b8 HR2 H2 HB2 HW2
 obtain ⟨b0,b1,b2,b3,b4,b5,b6,b7,b8⟩:=nine HR3.out
 have H3:=hid (H0.out.later HB3.out)
 have c3:=(H3.out.nds i HI.out).site
 have HNS:Hid (∀ x,w.heap.size≤x→¬ In3 (X.K i).j (X.K i).p (X.K i).q x):=fun x hx e=>by
  obtain ⟨_,_,e1,e2,e3⟩:=(H0.out.nds i HI.out).sp.lts
  unfold In3 at e; omega
 have HND:Hid (¬ In3 (X.K i).j (X.K i).p (X.K i).q (X.K i).nd):=fun e=>by
  have g1:=(H0.out.nds i HI.out).cn; have g2:=(H0.out.nds i HI.out).cj; have g3:=(H0.out.nds i HI.out).cp; have g4:=(H0.out.nds i HI.out).cq
  rcases e with e|e|e <;> (rw [e] at g1; omega)
 have HH:=hid (hearN_hf (H0.out.inv.nd i HI.out) HU.out HFI.out (by omega))
 have hFd:F.d.toNat=d:=by rw [HF.out]; exact Int.toNat_natCast d
 obtain ⟨g,HG⟩:∃ g,Hid (gHN (V.nd i) F=g):=⟨_,rfl⟩
 obtain ⟨o,HO⟩:∃ o,Hid (oHN (V.nd i) F=o):=⟨_,rfl⟩
 have HG2:Hid (hearL (dlN (V.nd i) d).2 ((V.nd i).R d) k a ph=g):=by rw [← HG.out,HF.out]; rfl
 have HO2:Hid (pOut (dlN (V.nd i)) (V.nd i).over (V.nd i).B (V.nd i).l d g.st.ph g.st.pr g.st.at_=o):=by rw [← HO.out,← HG.out,HF.out]; rfl
 have HFO:Hid (frOk f i d k a ph pr pa):=by have:=HFI.out.ok; rw [HF.out] at this; exact this
 have HNM:Hid (∀ e,e<6→((dlN (V.nd i)) e).1<4294967296):=fun e he=>by have:=(H0.out.inv.nd i HI.out).nm e he; omega
 go_region_held3 (fun V=>V.cell? ⟨(X.K i).nd,0,none⟩=some (.pointer (some ⟨(X.K i).s,0,none⟩))∧V.cell? ⟨w.heap.size,0,none⟩=some (.int .i64 (f:Int))∧V.cell? ⟨w.heap.size,1,none⟩=some (.int .i64 (i:Int))∧V.cell? ⟨w.heap.size,2,none⟩=some (.int .i64 (d:Int))∧V.cell? ⟨w.heap.size,3,none⟩=some (.int .i64 (k:Int))∧V.cell? ⟨w.heap.size,4,none⟩=some (.int .i64 (a:Int))∧V.cell? ⟨w.heap.size,5,none⟩=some (.bool y)∧V.cell? ⟨w.heap.size,6,none⟩=some (.int .i64 (ph:Int))∧V.cell? ⟨w.heap.size,7,none⟩=some (.int .i64 (pr:Int))∧V.cell? ⟨w.heap.size,8,none⟩=some (.int .i64 (pa:Int))) (go_keep) (first|(go_at_call 146; (with_reducible refine (shear_inB A w0 _ (X.K i).s (X.K i).j (X.K i).mb (X.K i).p (X.K i).q m i f d k a ph pr pa y (V.nd i).R (dlN (V.nd i)) (V.nd i).over (V.nd i).B (V.nd i).l g o (H3.out.drew.nds i HI.out).sp HE.out.toE HNM.out HFO.out HG2.out HO2.out).mono ?_); rintro e w4 ⟨v,rfl,ha4,hs4,hk4,hf4⟩; have HR4:=hid (hk4.row HR3.out (HNS.out _ (Nat.le_refl _))); have q0:=keptCell hk4 c3 HND.out; have q1:=keptCell hk4 b0 (HNS.out _ (Nat.le_refl _)); have q2:=keptCell hk4 b1 (HNS.out _ (Nat.le_refl _)); have q3:=keptCell hk4 b2 (HNS.out _ (Nat.le_refl _)); have q4:=keptCell hk4 b3 (HNS.out _ (Nat.le_refl _)); have q5:=keptCell hk4 b4 (HNS.out _ (Nat.le_refl _)); have q6:=keptCell hk4 b5 (HNS.out _ (Nat.le_refl _)); have q7:=keptCell hk4 b6 (HNS.out _ (Nat.le_refl _)); have q8:=keptCell hk4 b7 (HNS.out _ (Nat.le_refl _)); have q9:=keptCell hk4 b8 (HNS.out _ (Nat.le_refl _)); have HA4:=hid (And.intro ha4 (And.intro hs4 (And.intro hk4 hf4))); clear ha4 hs4 hk4 hf4))
 clear q0 q1 q2 q3 q4 q5 q6 q7 q8 q9 b0 b1 b2 b3 b4 b5 b6 b7 b8 c3
 have HOE:Hid (o.e=dealL o.b.data.toList):=by have:=HH.out.e; rw [HO.out] at this; rw [this]; unfold dlN; rw [hearN_B,HO.out]; exact rfl
 have HN4:=hid ((H3.out.drew.nds i HI.out).hear HA4.out.2.1 HOE.out HA4.out.2.2.1)
 have HK4:Hid (Kept (fun x=>C x / 100=i) w3 w4):=(Kept.refl _ w3).drew.trans (HA4.out.2.2.1.mono (H3.out.drew.nds i HI.out).in3)
 have HE4:=hid (HE.out.later HA4.out.2.1.jp.bel)
 have HFr4:Hid (FrF w4 C w.heap.size v (ansN i (V.nd i) F)):=by
  have:=AnsV.frf (w:=w4) (C:=C) (id:=i) (f:=F) (g:=g) (c:=o.c) (base:=w3.heap.size) (v:=v) (by rw [HF.out]; exact HA4.out.1) HA4.out.2.2.2 (fun x hx=>by rcases Nat.lt_or_ge (C x) 2000 with q|q; (have:=H3.out.lt x q; omega); exact q)
  unfold ansN
  rw [HG.out,HO.out]
  exact this.mono HB3.out.size
 have g5:=HE4.out.g5
 obtain ⟨b0,b1,b2,b3,b4,b5,b6,b7,b8⟩:=nine HR4.out
 have hi7:i≤9:=by have:=H0.out.n7.2; have:=HI.out; omega
 rcases HH.out.c with hc|hc
 ·have hN0:=hearN_0 hc
  rw [HO.out] at hc hN0
  rw [hc,ev_nil]
  have HWD:=H3.out.node HK4.out HI.out (fun x hx=>hx) (fun _ _=>rfl) (fun x hx hcc=>by have:=H3.out.lt x hcc; omega) (K:=X.K i) (m':=m+1) (N:=hearN (V.nd i) F) (by rw [hN0]; exact HN4.out.mono (Nat.le_succ _)) rfl (Nat.le_succ _) (H3.out.inv.node HH.out.ni (Nat.le_succ _))
  have H4:=hid HWD
  clear HWD
  have hq:∀ w,(binOp .eql 28 .nilIface (.iface 276 (.pointer (some (A 5))))).run Tryz.prog w=.ok (.bool false) w:=fun w=>eq_nil _ w
  obtain ⟨⟨is,u2,u3⟩,HS4⟩:∃ x,Hid (stN (hearN (V.nd i) F) d=x):=⟨_,rfl⟩
  have HS5:Hid (stN ((setNd V i (hearN (V.nd i) F)).nd i) d=⟨is,u2,u3⟩):=by unfold setNd; simp only [if_true]; exact HS4.out
  by_cases hn:is≠was∧finB is=true∧V.evs.length<500
  ·have HNt:=hid hn
   have HX:Hid (hearX V i F={ setNd V i (hearN (V.nd i) F) with evs:=V.evs ++ [⟨i,d,is⟩] }):=by
    unfold hearX noteE; rw [hFd,HST.out,HS4.out,if_pos hn]; exact rfl
   clear hn
   go_wp2_with (go_at_call 82; (refine (note_yes i d was is u2 u3 H4.out HI.out hd HS5.out HNt.out).mono ?_); rintro e w5 ⟨rfl,ho5⟩; have HO5:=hid ho5; clear ho5)
   go_ret
   refine ⟨_,rfl,?_⟩
   rw [HX.out]
   obtain ⟨C',X',x1,x2,x3,x4⟩:=HO5.out
   have hk34:Kept (OwnX C) w w4:=(Kept.of_below HB3.out).trans (HK4.out.mono (fun x hx=>by show C x<2000; omega))
   exact ⟨C',X',x1,x2.trans (key_K rfl),hk34.trans x3,fun x hx=>x4 x (Nat.lt_of_lt_of_le hx hk34.size),HFr4.out.kept x3 x4⟩
  ·have HNt:=hid hn
   have HX:Hid (hearX V i F=setNd V i (hearN (V.nd i) F)):=by
    unfold hearX noteE; rw [hFd,HST.out,HS4.out,if_neg hn]; exact rfl
   clear hn
   go_wp2_with (go_at_call 82; (refine (note_not i d was is u2 u3 H4.out HI.out hd HS5.out HNt.out).mono ?_); rintro e w5 ⟨rfl,ho5⟩; have HO5:=hid ho5; clear ho5)
   go_ret
   refine ⟨_,rfl,?_⟩
   rw [HX.out]
   have hk34:Kept (OwnX C) w w4:=(Kept.of_below HB3.out).trans (HK4.out.mono (fun x hx=>by show C x<2000; omega))
   exact ⟨C,_,(H4.out.later HO5.out).mono (Nat.le_succ _),key_K rfl,hk34.trans (Kept.of_below HO5.out),fun _ _=>rfl,HFr4.out.kept (Kept.of_below HO5.out) (fun _ _=>rfl)⟩
 ·have hN6:=hearN_6 hc
  rw [HO.out] at hc hN6
  rw [hc,ev_off]
  have hq:∀ w,(binOp .eql 28 (.iface 276 (.pointer (some (A 5)))) (.iface 276 (.pointer (some (A 5))))).run Tryz.prog w=.ok (.bool true) w:=fun w=>eq_off _ w
  go_wp2_with fail
  refine (fall_any HN4.out).mono ?_
  rintro e w5 ⟨rfl,hn5,hk5⟩
  have HWD:=H3.out.node (HK4.out.trans hk5) HI.out (fun x hx=>hx) (fun _ _=>rfl) (fun x hx hcc=>by have:=H3.out.lt x hcc; omega) (K:=X.K i) (m':=m+1) (N:=hearN (V.nd i) F) (by rw [hN6]; exact hn5.mono (Nat.le_succ _)) rfl (Nat.le_succ _) (H3.out.inv.node HH.out.ni (Nat.le_succ _))
  have H4:=hid HWD
  have HK5:=hid hk5
  have HR5:=hid (hk5.row HR4.out (fun e=>by have:=H0.out.lt w.heap.size (by omega); omega))
  clear HWD hn5 hk5 b0 b1 b2 b3 b4 b5 b6 b7 b8
  obtain ⟨b0,b1,b2,b3,b4,b5,b6,b7,b8⟩:=nine HR5.out
  have HS4:Hid (stN (hearN (V.nd i) F) d=⟨was,t2,t3⟩):=by have:=HH.out.no (by rw [HO.out]; exact hc); rw [hFd] at this; unfold stN; rw [this]; exact HST2.out
  have HS5:Hid (stN ((setNd V i (hearN (V.nd i) F)).nd i) d=⟨was,t2,t3⟩):=by unfold setNd; simp only [if_true]; exact HS4.out
  have HX:Hid (hearX V i F=setNd V i (hearN (V.nd i) F)):=by
   unfold hearX noteE; rw [hFd,HST.out,HS4.out,if_neg (fun h=>h.1 rfl)]; exact rfl
  go_wp2_with (go_at_call 82; (refine (note_not i d was was t2 t3 H4.out HI.out hd HS5.out (fun h=>h.1 rfl)).mono ?_); rintro e w6 ⟨rfl,ho6⟩; have HO6:=hid ho6; clear ho6)
  go_ret
  refine ⟨_,rfl,?_⟩
  rw [HX.out]
  have hk5:Kept (OwnX C) w4 w5:=HK5.out.mono (fun x hx=>by show C x<2000; omega)
  have hk34:Kept (OwnX C) w w5:=((Kept.of_below HB3.out).trans (HK4.out.mono (fun x hx=>by show C x<2000; omega))).trans hk5
  exact ⟨C,_,(H4.out.later HO6.out).mono (Nat.le_succ _),key_K rfl,hk34.trans (Kept.of_below HO6.out),fun _ _=>rfl,(HFr4.out.kept hk5 (fun _ _=>rfl)).kept (Kept.of_below HO6.out) (fun _ _=>rfl)⟩
end
theorem Held9.to3 {w:World} {A:Nat→Addr} (h:Held9 w A):Held3 w A:=fun i h1 h3=>by
 have hi:i=1 ∨ i=2 ∨ i=3:=by omega
 rcases hi with rfl|rfl|rfl
 ·exact h.var 1 (by decide)
 ·exact h.var 2 (by decide)
 ·exact h.var 3 (by decide)
theorem seeP_seen {P:PL} {p M:Int} (h0:0≤P.seen) (h1:P.seen≤M) (p0:0≤p) (p1:p≤M):0≤(seeP P p).seen∧(seeP P p).seen≤M:=by
 unfold seeP
 split
 ·exact ⟨p0,p1⟩
 ·exact ⟨h0,h1⟩
theorem phear_seen {zs:List Int} {id:Nat} {deal att:Int} {P:PL} {f:F9} {M:Int} (h0:0≤P.seen) (h1:P.seen≤M) (p0:0≤f.pr) (p1:f.pr≤M):0≤(phear zs id deal att P f).1.seen∧(phear zs id deal att P f).1.seen≤M:=by
 have hn:(noteP P f).seen=P.seen:=rfl
 have hs:=seeP_seen (P:=noteP P f) (p:=f.pr) (M:=M) (by rw [hn]; exact h0) (by rw [hn]; exact h1) p0 p1
 unfold phear
 split
 ·unfold takenP
  split
  ·unfold voteP
   split
   ·exact ⟨h0,h1⟩
   ·split
    ·exact ⟨h0,h1⟩
    ·exact ⟨h0,h1⟩
  ·split
   ·exact hs
   ·split
    ·unfold tellP
     split
     ·exact hs
     ·split
      ·exact hs
      ·exact hs
    ·unfold ackP
     split
     ·exact hs
     ·exact hs
 ·exact ⟨h0,h1⟩
theorem phear_out {zs:List Int} {id:Nat} {deal att:Int} {P:PL} {f:F9} {x:Int×Int} (h:(phear zs id deal att P f).2=some x):(x.1=7 ∨ x.1=5)∧0≤x.2∧x.2≤5:=by
 unfold phear at h
 split at h
 ·unfold takenP at h
  split at h
  ·unfold voteP at h
   split at h
   ·obtain rfl:=Option.some.inj h; exact ⟨.inl rfl,by decide,by decide⟩
   ·split at h
    ·obtain rfl:=Option.some.inj h; exact ⟨.inr rfl,by decide,by decide⟩
    ·cases h
  ·split at h
   ·cases h
   ·split at h
    ·unfold tellP at h
     split at h
     ·cases h
     ·generalize hc:chooseL _=c at h
      have:=choose_ways (toldS (seeP (noteP P f) f.pr).told f.f.toNat ⟨f.ph,f.pr,f.pa⟩)
      rw [hc] at this
      split at h
      ·obtain rfl:=Option.some.inj h
       refine ⟨.inl rfl,?_⟩
       rcases this with rfl|rfl|rfl|rfl <;> exact ⟨by decide,by decide⟩
      ·obtain rfl:=Option.some.inj h
       refine ⟨.inr rfl,?_⟩
       rcases this with rfl|rfl|rfl|rfl <;> exact ⟨by decide,by decide⟩
    ·unfold ackP at h
     split at h
     ·cases h
     ·obtain rfl:=Option.some.inj h
      refine ⟨.inl rfl,?_⟩
      show 0≤afterI _∧afterI _≤5
      unfold afterI
      split
      ·decide
      ·split <;> decide
 ·cases h
theorem toL_fi {n:Nat} {id d:Nat} {k a ph:Int} (hid:id<n) (hn:n≤7) (hd:d<6) (hk:1≤k∧k≤7) (ha:0≤a∧a≤1048576) (hp:0≤ph∧ph≤5):∀ m,m≤n→∀ f,f∈toL id d k a ph m→FI n f
 | 0,_,f,hf=>by cases hf
 | m+1,hm,f,hf=>by
  rw [toL,List.mem_append] at hf
  rcases hf with hf|hf
  ·exact toL_fi hid hn hd hk ha hp m (by omega) f hf
  ·rw [List.mem_singleton] at hf
   subst hf
   refine ⟨by show (0:Int)≤id; omega,by show (id:Int)<n; omega,by show (0:Int)≤m; omega,by show (m:Int)<n; omega,⟨?_,?_,?_,hk,ha,hp,by show (0:Int)≤0∧(0:Int)≤1048576; decide,by show (0:Int)≤0∧(0:Int)≤1048576; decide⟩⟩
   ·show (0:Int)≤id∧(id:Int)≤6; omega
   ·show (0:Int)≤m∧(m:Int)≤6; omega
   ·show (0:Int)≤d∧(d:Int)≤5; omega
theorem outL_fi {zs:List Int} {id d:Nat} {att:Int} {P:PL} {f:F9} (hid:id<zs.length) (hn:zs.length≤7) (hd:d<6) (ha:0≤att∧att≤1048576):∀ x,x∈outL id d att zs.length (phear zs id d att P f).2→FI zs.length x:=by
 intro x hx
 cases h:(phear zs id d att P f).2 with
 | none=>rw [h] at hx; cases hx
 | some y =>
  rw [h] at hx
  have:=phear_out h
  exact toL_fi hid hn hd (by omega) ha this.2 _ (Nat.le_refl _) x hx
section
variable {w0 w w':World} {C:Nat→Nat} {K:NB} {X:XB} {i m m':Nat} {zs:List Int} {N:PN} {V V':PX} {A:Nat→Addr}
theorem ldV_set {d e:Nat} {x y:Int×PL} (h:N.ld d=some x):ldV K (setLd N d y) e=ldV K N e:=by
 unfold ldV setLd
 by_cases g:e=d
 ·subst g; simp [h]
 ·simp [g]
theorem ND.leadHear {d:Nat} {x:Int×PL} {P:PL} (h:ND w0 w C K i zs N m) (hd:d<6) (hl:N.ld d=some x) (hL:LD w' (K.lb d) (K.b d) (K.cap d) i d x.1 zs P) (hk:Kept (In1 (K.lb d)) w w') (hlo:w0.heap.size≤K.lb d):ND w0 w' C K i zs (setLd N d (x.1,P)) m:=by
 have e1:=h.cs; have e2:=h.cj; have e3:=h.cm; have e4:=h.cp; have e5:=h.cq; have e6:=h.cn
 have g0:=h.cl d hd x hl
 have nS:∀ y,C y≠100 * i+10+d→¬ In1 (K.lb d) y:=fun y g hy=>by rw [show y=K.lb d from hy] at g; exact g g0.1
 have hlo':∀ y,In1 (K.lb d) y→w0.heap.size≤y:=fun y hy=>by rw [show y=K.lb d from hy]; exact hlo
 have hrow:ndC K (setLd N d (x.1,P))=ndC K N:=by unfold ndC; simp only [ldV_set hl]
 refine ⟨by rw [hrow]; exact hk.row h.row (nS _ (by omega)),h.sp.far hk hlo' (fun y hy=>nS y (by rcases hy with rfl|rfl|rfl <;> omega)) (nS _ (by omega)) (nS _ (by omega)),fun e he y hy=>?_,h.cn,h.cs,h.cj,h.cm,h.cp,h.cq,fun e he y hy=>?_,h.n0⟩
 ·by_cases g:e=d
  ·subst g
   have hy':(x.1,P)=y:=by simpa [setLd] using hy
   subst hy'
   exact hL
  ·have hy':N.ld e=some y:=by simpa [setLd,g] using hy
   have g1:=h.cl e he y hy'
   exact (h.lds e he y hy').kept hk (nS _ (by omega)) (nS _ (by omega))
 ·by_cases g:e=d
  ·subst g; exact h.cl e he x hl
  ·exact h.cl e he y (by simpa [setLd,g] using hy)
theorem NI.leadHear {n d:Nat} {x:Int×PL} {P:PL} (h:NI n N m) (hl:N.ld d=some x) (h1:P.stt<4) (h2:0≤P.seen∧P.seen≤1048576) (h3:PW n P):NI n (setLd N d (x.1,P)) m:=by
 refine ⟨h.gd,h.nm,h.sz,h.up,h.l0,h.l1,fun e y hy=>?_⟩
 by_cases g:e=d
 ·subst g
  have hy':(x.1,P)=y:=by simpa [setLd] using hy
  subst hy'
  have:=h.ld e x hl
  exact ⟨this.1,this.2.1,h1,h2,h3⟩
 ·exact h.ld e y (by simpa [setLd,g] using hy)
theorem lead_out {W2 w3:World} {d:Nat} {x:Int×PL} {F:F9} {v:Value} (h:WD w0 w C X zs V m) (hb:Below w.heap.size w W2) (hi:i<zs.length) (hd:d<6) (hl:(V.nd i).ld d=some x) (hf:FrB W2.heap.size w3 v (outL i d x.1 zs.length (phear zs i d x.1 x.2 F).2)) (hL:LD w3 ((X.K i).lb d) ((X.K i).b d) ((X.K i).cap d) i d x.1 zs (phear zs i d x.1 x.2 F).1) (hk:Kept (In1 ((X.K i).lb d)) W2 w3) (hF:FI zs.length F) :
  WOutF w0 w w3 C X zs (leadX zs V i d F) (m+1) v (leadO zs V i d F):=by
 have h2:=h.later hb
 have g0:=(h2.nds i hi).cl d hd x hl
 have hlo:w0.heap.size≤(X.K i).lb d:=h.low _ (by have:=h.n7.2; omega)
 have hni:=(h.inv.nd i hi).ld d x hl
 have hp:=hF.ok.2.2.2.2.2.2.1
 have hkc:Kept (fun y=>C y / 100=i) W2 w3:=hk.mono (fun y hy=>by rw [show y=_ from hy]; show C _ / 100=i; omega)
 have hI:=(h.inv.nd i hi).leadHear hl (phear_st hni.2.2.1) (phear_seen (zs:=zs) (id:=i) (deal:=d) (att:=x.1) hni.2.2.2.1.1 hni.2.2.2.1.2 hp.1 hp.2) hL.pw
 have e1:leadX zs V i d F=setNd V i (setLd (V.nd i) d (x.1,(phear zs i d x.1 x.2 F).1)):=by unfold leadX; rw [hl]
 have e2:leadO zs V i d F=outL i d x.1 zs.length (phear zs i d x.1 x.2 F).2:=by unfold leadO; rw [hl]
 rw [e1,e2]
 have n7:=h.n7.2
 refine ⟨C,_,h2.node hkc hi (fun y hy=>hy) (fun _ _=>rfl) (fun y hy hc=>by have:=h2.lt y hc; omega) (((h2.nds i hi).leadHear hd hl hL hk hlo).mono (Nat.le_succ _)) rfl (Nat.le_succ _) (h2.inv.node (hI.mono (Nat.le_succ _)) (Nat.le_succ _)),key_K rfl,(Kept.of_below hb).trans (hkc.mono (fun y hy=>by show C y<2000; omega)),fun _ _=>rfl,(FrF.of_b hf (fun y hy=>?_)).mono hb.size⟩
 rcases Nat.lt_or_ge (C y) 2000 with q|q
 ·have:=h.lt y q
  have:=hb.size
  omega
 ·exact q
theorem arrive_none (f d k a ph pr pa:Nat) (y:Bool) (hl:(V.nd i).ld d=none) (h:WD w0 w C X zs V m) (hE:Held9 w0 A) (hi:i<zs.length) (hf:FI zs.length (frN f i d k a y ph pr pa)) (hk:((k:Int) == 2)=true ∨ (((k:Int) == 2)=false∧((k:Int) == 4)=true) ∨ (((k:Int) == 2)=false∧((k:Int) == 4)=false∧((k:Int) == 6)=true)) (hd:d<6) :
  Calls Tryz.prog 63 #[.pointer (some ⟨X.xb,0,none⟩),frV (f:Int) (i:Int) (d:Int) (k:Int) (a:Int) y (ph:Int) (pr:Int) (pa:Int)] w fun e w'=>∃ v,e=.returned v∧WOutF w0 w w' C X zs V (m+1) v []:=by
 obtain ⟨W,HW⟩:∃ W,Hid (w.alloc (.cells #[.int .i64 (f:Int),.int .i64 (i:Int),.int .i64 (d:Int),.int .i64 (k:Int),.int .i64 (a:Int),.bool y,.int .i64 (ph:Int),.int .i64 (pr:Int),.int .i64 (pa:Int)] 104)=W):=⟨_,rfl⟩
 have HB:Hid (Below w.heap.size w W):=by rw [← HW.out]; exact (Below.refl _ _).alloc (Nat.le_refl _) _
 have HR:Hid (W.heap[w.heap.size]? = some (.cells #[.int .i64 (f:Int),.int .i64 (i:Int),.int .i64 (d:Int),.int .i64 (k:Int),.int .i64 (a:Int),.bool y,.int .i64 (ph:Int),.int .i64 (pr:Int),.int .i64 (pa:Int)] 104 (0,0))):=by rw [← HW.out]; exact heap_alloc_new w _
 obtain ⟨b0,b1,b2,b3,b4,b5,b6,b7,b8⟩:=nine HR.out
 have H0:=hid h
 have H1:=hid (h.later HB.out)
 have HE:=hid hE
 have HI:=hid hi
 have HFI:=hid hf
 obtain ⟨-,c1,-,-,-⟩:=H1.out.cells
 have c2:=H1.out.ns i hi
 have c3:=(H1.out.nds i hi).lead hd
 obtain ⟨n,hn7⟩:∃ n,Hid (zs.length=n):=⟨_,rfl⟩
 have n7:=h.n7
 rw [hn7.out] at c1 hi n7
 have hW:=HW.out
 rw [ldV_none hl] at c3
 clear h hE hf hl
 rcases hk with hk|hk|hk
 all_goals
  go_enter Tryz.func63,Tryz.ntmps63
  go_wp2_with fail
  go_quiet (fail)
  rename_i nq
  obtain ⟨W2,HW2⟩:∃ W2,Hid (W.drewN nq=W2):=⟨_,rfl⟩
  have HB2:Hid (Below w.heap.size w W2):=by rw [← HW2.out]; exact below_drewN HB.out nq
  have hW2:=HW2.out
  rw [hW2]
  have HR2:Hid (W2.heap[w.heap.size]? = some (.cells #[.int .i64 (f:Int),.int .i64 (i:Int),.int .i64 (d:Int),.int .i64 (k:Int),.int .i64 (a:Int),.bool y,.int .i64 (ph:Int),.int .i64 (pr:Int),.int .i64 (pa:Int)] 104 (0,0))):=by rw [← HW2.out]; exact HR.out
  clear hW2 b0 b1 b2 b3 b4 b5 b6 b7 b8 c1 c2 c3 hW
  obtain ⟨b0,b1,b2,b3,b4,b5,b6,b7,b8⟩:=nine HR2.out
  have H2:=hid (H0.out.later HB2.out)
  go_wp2_with fail
  go_ret
  refine ⟨_,rfl,?_⟩
  exact ⟨C,X,H2.out.mono (Nat.le_succ _),rfl,Kept.of_below HB2.out,fun _ _=>rfl,FrF.nil _ _ _⟩
theorem arrive_some (f d k a ph pr pa:Nat) (y:Bool) (x:Int×PL) (hl:(V.nd i).ld d=some x) (h:WD w0 w C X zs V m) (hE:Held9 w0 A) (hi:i<zs.length) (hf:FI zs.length (frN f i d k a y ph pr pa)) (hk:((k:Int) == 2)=true ∨ (((k:Int) == 2)=false∧((k:Int) == 4)=true) ∨ (((k:Int) == 2)=false∧((k:Int) == 4)=false∧((k:Int) == 6)=true)) (hd:d<6) :
  Calls Tryz.prog 63 #[.pointer (some ⟨X.xb,0,none⟩),frV (f:Int) (i:Int) (d:Int) (k:Int) (a:Int) y (ph:Int) (pr:Int) (pa:Int)] w fun e w'=>∃ v,e=.returned v∧WOutF w0 w w' C X zs (leadX zs V i d (frN f i d k a y ph pr pa)) (m+1) v (leadO zs V i d (frN f i d k a y ph pr pa)):=by
 obtain ⟨W,HW⟩:∃ W,Hid (w.alloc (.cells #[.int .i64 (f:Int),.int .i64 (i:Int),.int .i64 (d:Int),.int .i64 (k:Int),.int .i64 (a:Int),.bool y,.int .i64 (ph:Int),.int .i64 (pr:Int),.int .i64 (pa:Int)] 104)=W):=⟨_,rfl⟩
 have HB:Hid (Below w.heap.size w W):=by rw [← HW.out]; exact (Below.refl _ _).alloc (Nat.le_refl _) _
 have HR:Hid (W.heap[w.heap.size]? = some (.cells #[.int .i64 (f:Int),.int .i64 (i:Int),.int .i64 (d:Int),.int .i64 (k:Int),.int .i64 (a:Int),.bool y,.int .i64 (ph:Int),.int .i64 (pr:Int),.int .i64 (pa:Int)] 104 (0,0))):=by rw [← HW.out]; exact heap_alloc_new w _
 obtain ⟨b0,b1,b2,b3,b4,b5,b6,b7,b8⟩:=nine HR.out
 have H0:=hid h
 have H1:=hid (h.later HB.out)
 have HE:=hid hE
 have HI:=hid hi
 have HFI:=hid hf
 obtain ⟨-,c1,-,-,-⟩:=H1.out.cells
 have c2:=H1.out.ns i hi
 have c3:=(H1.out.nds i hi).lead hd
 obtain ⟨n,hn7⟩:∃ n,Hid (zs.length=n):=⟨_,rfl⟩
 have n7:=h.n7
 rw [hn7.out] at c1 hi n7
 have hW:=HW.out
 have HLd:=hid hl
 have HP:=hid ((h.inv.nd i (by rw [hn7.out]; exact hi)).ld d x hl).2.2.1
 rw [ldV_some hl] at c3
 clear h hE hf hl
 rcases hk with hk|hk|hk
 all_goals
  go_enter Tryz.func63,Tryz.ntmps63
  go_wp2_with fail
  go_quiet (fail)
  rename_i nq
  obtain ⟨W2,HW2⟩:∃ W2,Hid (W.drewN nq=W2):=⟨_,rfl⟩
  have HB2:Hid (Below w.heap.size w W2):=by rw [← HW2.out]; exact below_drewN HB.out nq
  have hW2:=HW2.out
  rw [hW2]
  have HR2:Hid (W2.heap[w.heap.size]? = some (.cells #[.int .i64 (f:Int),.int .i64 (i:Int),.int .i64 (d:Int),.int .i64 (k:Int),.int .i64 (a:Int),.bool y,.int .i64 (ph:Int),.int .i64 (pr:Int),.int .i64 (pa:Int)] 104 (0,0))):=by rw [← HW2.out]; exact HR.out
  clear hW2 b0 b1 b2 b3 b4 b5 b6 b7 b8 c1 c2 c3 hW
  obtain ⟨b0,b1,b2,b3,b4,b5,b6,b7,b8⟩:=nine HR2.out
  have H2:=hid (H0.out.later HB2.out)
  go_wp2_with fail
  refine (ldhear_any A (f:Int) (i:Int) (d:Int) (k:Int) (a:Int) y (ph:Int) (pr:Int) (pa:Int) H0.out.inv.he HP.out (H2.out.held HE.out).to3 ((H2.out.nds i HI.out).lds d hd x HLd.out)).mono ?_
  rintro e w3 ⟨v,rfl,hf3,hl3,hk3⟩
  have HA3:=hid (And.intro hf3 (And.intro hl3 hk3))
  clear hf3 hl3 hk3
  go_wp2_with fail
  go_ret
  refine ⟨_,rfl,?_⟩
  exact lead_out H0.out HB2.out HI.out hd HLd.out HA3.out.1 HA3.out.2.1 HA3.out.2.2 HFI.out
theorem arrive_hear (f d k a ph pr pa:Nat) (y:Bool) (h:WD w0 w C X zs V m) (hE:Held9 w0 A) (hi:i<zs.length) (hf:FI zs.length (frN f i d k a y ph pr pa)) (hk:((k:Int) == 2)=false∧((k:Int) == 4)=false∧((k:Int) == 6)=false) (hd:d<6) (hu:(V.nd i).l≠-2) (hm:m<1000000) :
  Calls Tryz.prog 63 #[.pointer (some ⟨X.xb,0,none⟩),frV (f:Int) (i:Int) (d:Int) (k:Int) (a:Int) y (ph:Int) (pr:Int) (pa:Int)] w fun e w'=>∃ v,e=.returned v∧WOutF w0 w w' C X zs (hearX V i (frN f i d k a y ph pr pa)) (m+2) v (ansN i (V.nd i) (frN f i d k a y ph pr pa)):=by
 obtain ⟨W,HW⟩:∃ W,Hid (w.alloc (.cells #[.int .i64 (f:Int),.int .i64 (i:Int),.int .i64 (d:Int),.int .i64 (k:Int),.int .i64 (a:Int),.bool y,.int .i64 (ph:Int),.int .i64 (pr:Int),.int .i64 (pa:Int)] 104)=W):=⟨_,rfl⟩
 have HB:Hid (Below w.heap.size w W):=by rw [← HW.out]; exact (Below.refl _ _).alloc (Nat.le_refl _) _
 have HR:Hid (W.heap[w.heap.size]? = some (.cells #[.int .i64 (f:Int),.int .i64 (i:Int),.int .i64 (d:Int),.int .i64 (k:Int),.int .i64 (a:Int),.bool y,.int .i64 (ph:Int),.int .i64 (pr:Int),.int .i64 (pa:Int)] 104 (0,0))):=by rw [← HW.out]; exact heap_alloc_new w _
 obtain ⟨b0,b1,b2,b3,b4,b5,b6,b7,b8⟩:=nine HR.out
 have H0:=hid h
 have H1:=hid (h.later HB.out)
 have HE:=hid hE
 have HI:=hid hi
 have HFI:=hid hf
 obtain ⟨-,c1,-,-,-⟩:=H1.out.cells
 have c2:=H1.out.ns i hi
 have c3:=(H1.out.nds i hi).lead hd
 obtain ⟨n,hn7⟩:∃ n,Hid (zs.length=n):=⟨_,rfl⟩
 have n7:=h.n7
 rw [hn7.out] at c1 hi n7
 have hW:=HW.out
 obtain ⟨hk,hk4,hk6⟩:=hk
 have HU:=hid hu
 clear h hE hf hu
 go_enter Tryz.func63,Tryz.ntmps63
 go_wp2_with fail
 refine (whear_any f d k a ph pr pa y _ rfl H1.out HE.out HI.out HU.out HFI.out hm).mono ?_
 rintro e w3 ⟨v,rfl,ho⟩
 have HO:=hid ho
 clear ho
 go_wp2_with fail
 go_ret
 refine ⟨_,rfl,?_⟩
 obtain ⟨C',X',x1,x2,x3,x4,x5⟩:=HO.out
 exact ⟨C',X',x1,x2,(Kept.of_below HB.out).trans x3,fun x hx=>x4 x (Nat.lt_of_lt_of_le hx HB.out.size),x5.mono HB.out.size⟩
theorem WOutF.mono {v:Value} {L:List F9} (h:WOutF w0 w w' C X zs V m v L) (hm:m≤m'):WOutF w0 w w' C X zs V m' v L:=by
 obtain ⟨C',X',x1,x2,x3,x4,x5⟩:=h
 exact ⟨C',X',x1.mono hm,x2,x3,x4,x5⟩
theorem arrive_any (f d k a ph pr pa:Nat) (y:Bool) (F:F9) (hF:F=frN f i d k a y ph pr pa) (h:WD w0 w C X zs V m) (hE:Held9 w0 A) (hi:i<zs.length) (hu:(V.nd i).l≠-2) (hf:FI zs.length F) (hm:m<1000000) :
  Calls Tryz.prog 63 #[.pointer (some ⟨X.xb,0,none⟩),frV (f:Int) (i:Int) (d:Int) (k:Int) (a:Int) y (ph:Int) (pr:Int) (pa:Int)] w fun e w'=>∃ v,e=.returned v∧WOutF w0 w w' C X zs (arriveX zs V F) (m+2) v (arriveO zs V F):=by
 subst hF
 have hd:d<6:=by have:(0:Int)≤d∧(d:Int)≤5:=hf.ok.2.2.1; omega
 by_cases hk:k=2 ∨ k=4 ∨ k=6
 ·have e1:arriveX zs V (frN f i d k a y ph pr pa)=leadX zs V i d (frN f i d k a y ph pr pa):=by
   unfold arriveX isAns
   rw [if_pos (by show decide ((k:Int)=2 ∨ (k:Int)=4 ∨ (k:Int)=6)=true; exact decide_eq_true (by omega))]
   rfl
  have e2:arriveO zs V (frN f i d k a y ph pr pa)=leadO zs V i d (frN f i d k a y ph pr pa):=by
   unfold arriveO isAns
   rw [if_pos (by show decide ((k:Int)=2 ∨ (k:Int)=4 ∨ (k:Int)=6)=true; exact decide_eq_true (by omega))]
   rfl
  rw [e1,e2]
  cases hl:(V.nd i).ld d with
  | none =>
   have e3:leadX zs V i d (frN f i d k a y ph pr pa)=V:=by unfold leadX; rw [hl]
   have e4:leadO zs V i d (frN f i d k a y ph pr pa)=[]:=by unfold leadO; rw [hl]
   rw [e3,e4]
   have hk':((k:Int) == 2)=true ∨ (((k:Int) == 2)=false∧((k:Int) == 4)=true) ∨ (((k:Int) == 2)=false∧((k:Int) == 4)=false∧((k:Int) == 6)=true):=by rcases hk with rfl|rfl|rfl <;> decide
   refine (arrive_none f d k a ph pr pa y hl h hE hi hf hk' hd).mono ?_
   rintro e w1 ⟨v,h1,h2⟩
   exact ⟨v,h1,h2.mono (Nat.le_succ _)⟩
  | some x =>
   have hk':((k:Int) == 2)=true ∨ (((k:Int) == 2)=false∧((k:Int) == 4)=true) ∨ (((k:Int) == 2)=false∧((k:Int) == 4)=false∧((k:Int) == 6)=true):=by rcases hk with rfl|rfl|rfl <;> decide
   refine (arrive_some f d k a ph pr pa y x hl h hE hi hf hk' hd).mono ?_
   rintro e w1 ⟨v,h1,h2⟩
   exact ⟨v,h1,h2.mono (Nat.le_succ _)⟩
 ·have e1:arriveX zs V (frN f i d k a y ph pr pa)=hearX V i (frN f i d k a y ph pr pa):=by
   unfold arriveX isAns
   rw [if_neg (by show ¬ decide ((k:Int)=2 ∨ (k:Int)=4 ∨ (k:Int)=6)=true; rw [decide_eq_true_iff]; omega)]
   rfl
  have e2:arriveO zs V (frN f i d k a y ph pr pa)=ansN i (V.nd i) (frN f i d k a y ph pr pa):=by
   unfold arriveO isAns
   rw [if_neg (by show ¬ decide ((k:Int)=2 ∨ (k:Int)=4 ∨ (k:Int)=6)=true; rw [decide_eq_true_iff]; omega)]
   rfl
  rw [e1,e2]
  exact arrive_hear f d k a ph pr pa y h hE hi hf ⟨beq_eq_false_iff_ne.2 (by omega),beq_eq_false_iff_ne.2 (by omega),beq_eq_false_iff_ne.2 (by omega)⟩ hd hu hm
theorem arriveO_fi {F:F9} (h:XI zs V m) (hu:(V.nd F.t.toNat).l≠-2) (hf:FI zs.length F) (hm:m<1000000):(∀ x,x∈arriveO zs V F→FI zs.length x)∧(arriveO zs V F).length≤7:=by
 have ht:F.t.toNat<zs.length:=by have:=hf.t0; have:=hf.t1; omega
 have hd:F.d.toNat<6:=by have:=hf.ok.2.2.1; omega
 have n7:=(errW_zero h.he).2.1
 unfold arriveO
 split
 ·unfold leadO
  cases hl:(V.nd F.t.toNat).ld F.d.toNat with
  | none=>exact ⟨fun x hx=>(by cases hx),Nat.zero_le _⟩
  | some x=>exact ⟨outL_fi ht n7 hd ((h.nd _ ht).ld _ x hl).2.1,Nat.le_trans (outL_le _ _ _ _ _) n7⟩
 ·exact ⟨ansN_fi (h.nd _ ht) hu hf (by omega) (by have:=hf.t0; omega),Nat.le_trans ansN_len (by decide)⟩
end
end Go.Proofs.YtadhpkopkkjmfaaGreatDoor
