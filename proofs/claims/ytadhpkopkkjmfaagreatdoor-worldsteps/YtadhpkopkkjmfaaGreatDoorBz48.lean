/-
  On the way to WStepsProof: XR XS XT.
-/
import Derived.Test.YtadhpkopkkjmfaaGreatDoorBz46
set_option maxHeartbeats 8000000
set_option maxRecDepth 100000
namespace Go.Proofs.YtadhpkopkkjmfaaGreatDoor
open Go.RowKit
theorem Tryz.infoMEv:(Tryz.prog.info? 121).map (fun i=>(i.zero,i.size,i.bytes))=some (some (.agg #[.int .i64 0,.int .i64 0,.int .i64 0]),3,24):=by kernel_rfl
theorem wpList_append_mev {w:World} {ops:Array Oper} {rest:List Oper} {o:Oper} {a:Act} {Q:Exit→Act→World→Prop} (hgd:o.guard=none) (s x:Operand)
  (ho:o.op=.call { callee:=.builtin .append,args:=#[s,x],argTypes:=#[57,57] })
  (base n:Nat) (v:Value) (ad:Addr) (c:Nat) (xs:List Value) (e:E3) (hs:a.eval s=v) (hx:a.eval x=.slice (some ad) 1 c) (hown:w.ownsRow base 121 3 v n xs) (hu:∀ j u,(e3L e)[j]? = some u→w.cell? (ad.add j)=some u) (hn:n≤1000000000000) (hb:base≤w.heap.size)
  (h:∀ ad' cap' w',w'.ownsRow base 121 3 (.slice ad' (n+1) cap') (n+1) (xs ++ e3L e)→w.grownBy w' v.ownBlock→((Value.slice ad' (n+1) cap').ownBlock=v.ownBlock ∨ (Value.slice ad' (n+1) cap').ownBlock=some w.heap.size)→wpList Tryz.prog ops Q rest (a.put o.dst (.slice ad' (n+1) cap')) w') :
  wpList Tryz.prog ops Q (o :: rest) a w:=by
 obtain ⟨i0,hi0,hz0,hz1,hz2⟩:=info_parts Tryz.infoMEv
 refine wpList_append_own_at w hgd s x 57 ho base 121 i0 _ 3 24 Tryz.underlying57 hi0 hz0 hz1 hz2 rfl (by decide) v n xs hs hown ad 1 c (e3L e) hx rfl hu (e3_one e) (by unfold maxLen; omega) (by omega) hb ?_
 intro v' w' h2 h3 _ h5
 obtain ⟨ad',cap',rfl⟩:∃ ad' cap',v'=.slice ad' (n+1) cap':=by
  rcases h2.2 with ⟨e,h0⟩|⟨g,cap,cur,e,-⟩
  ·exact ⟨none,0,by rw [e,h0]⟩
  ·exact ⟨_,_,e⟩
 exact h ad' cap' w' h2 h3 h5
theorem own_slice {w:World} {base size n:Nat} {t:TypeId} {v:Value} {xs:List Value} (h:w.ownsRow base t size v n xs):∃ av cv,v=.slice av n cv:=by
 rcases h.2 with ⟨e,h0⟩|⟨g,cp,cur,e,-⟩
 ·exact ⟨none,0,by rw [e,h0]⟩
 ·exact ⟨_,_,e⟩
section
variable {b0:Nat} {w w':World} {C C':Nat→Nat} {Y:YB} {K:RB} {aw:Option Addr} {cap n i k:Nat} {g:Nat→Bool} {E:Nat→Nat×St} {F:List E3}
theorem rnote_any (h:NT b0 w C Y K aw cap n i g E F) (hi:i<n) (hb:b0≤w.heap.size) :
  Calls Tryz.prog 129 #[.pointer (some ⟨Y.xb,0,none⟩),.int .i64 (i:Int)] w fun e w'=>e=.returned (.tuple #[])∧NTo b0 w w' C Y K aw cap n i (noteG g (fun d=>(E d).2.ph) 6) E (noteL F i g (fun d=>(E d).2.ph) 6):=by
 obtain ⟨c1,-,-⟩:=h.cells
 have cn:=h.ns
 have H:=hid h
 obtain ⟨p,HP⟩:∃ p:Nat→Nat,Hid ((fun d=>(E d).2.ph)=p):=⟨_,rfl⟩
 rw [HP.out]
 clear h
 go_enter Tryz.func129,Tryz.ntmps129
 go_wp2_with fail
 go_loopw [5] (fun d wr=>∃ k:Nat,k≤6∧d=.int .i64 (k:Int)∧NTo b0 w wr C Y K aw cap n i (noteG g p k) E (noteL F i g p k)) (fun d _=>6 - (intOf d).toNat)
 case atStart=>exact ⟨0,Nat.zero_le _,rfl,C,Y.ev,by rw [noteG_zero]; exact H.out,Kept.refl _ _,fun _ _=>rfl⟩
 case round =>
  obtain ⟨k,hk,rfl,C1,v1,hN,hkk,hC⟩:=hrel
  rename_i wr
  have HN:=hid hN
  have HKK:=hid hkk
  have HC:=hid hC
  have d0:=hN.nd
  have hbr:Hid (b0≤wr.heap.size):=Nat.le_trans hb hkk.size
  clear hkk hC
  by_cases hlt:k<6
  ·obtain ⟨cs,e1⟩:=hN.js
   have e0:=hN.st
   have e2:=hN.ph k hlt
   have d3:=hN.dd
   have g1:=hN.drow.at_ hlt
   have g2:=hN.drow.fz k
   rw [noteG_at] at g1
   have HPK:Hid ((E k).2.ph=p k):=by rw [← HP.out]; rfl
   rw [HPK.out] at e2
   obtain ⟨b,HB⟩:∃ b,Hid (finB (p k)=b):=⟨_,rfl⟩
   have HF:=hid (fun w=>rfinal_is (p k) b w HB.out)
   obtain ⟨q,HQ⟩:∃ q,Hid (g k=q):=⟨_,rfl⟩
   rw [HQ.out] at g1
   clear hN
   by_cases hskip:q=true ∨ b=false
   ·have HX:Hid (NTo b0 w wr C Y K aw cap n i (noteG g p (k+1)) E (noteL F i g p (k+1))):=by
     have a1:noteG g p (k+1)=noteG g p k:=noteG_skip (by rw [HQ.out,HB.out]; exact hskip)
     have a2:noteL F i g p (k+1)=noteL F i g p k:=by
      rw [noteL,if_neg]
      rintro ⟨h1,h2,-⟩
      rw [HQ.out] at h1; rw [HB.out] at h2
      rcases hskip with e|e
      ·rw [h1] at e; cases e
      ·rw [h2] at e; cases e
     show NTo _ _ _ _ _ _ _ _ _ _ _ _ _
     rw [a1,a2]
     exact ⟨C1,v1,HN.out,HKK.out,HC.out⟩
    clear HN
    go_wp2_with fail
    refine (HF.out _).mono ?_
    rintro e w1 ⟨rfl,rfl⟩
    rcases hskip with rfl|rfl
    ·go_wp2_with fail
     go_roundw
     case rel=>exact ⟨k+1,by omega,by go_num,HX.out⟩
     case measure=>simp [intOf]; omega
    ·cases q
     ·go_wp2_with fail
      go_roundw
      case rel=>exact ⟨k+1,by omega,by go_num,HX.out⟩
      case measure=>simp [intOf]; omega
     ·go_wp2_with fail
      go_roundw
      case rel=>exact ⟨k+1,by omega,by go_num,HX.out⟩
      case measure=>simp [intOf]; omega
   ·obtain rfl:q=false:=by cases q; rfl; exact (hskip (.inl rfl)).elim
    obtain rfl:b=true:=by cases b; exact (hskip (.inr rfl)).elim; rfl
    clear hskip
    obtain ⟨W,HW⟩:∃ W,Hid (wr.setCell ⟨K.dn,k,none⟩ (.bool true)=W):=⟨_,rfl⟩
    have HM:Hid (NT b0 W C1 { Y with ev:=v1 } K aw cap n i (noteG g p (k+1)) E (noteL F i g p k)):=by
     rw [← HW.out]; show NT _ _ _ _ _ _ _ _ _ _ _ _; rw [noteG_mark HB.out]; exact HN.out.mark hlt
    have HKW:Hid (Kept (InN C i) w W):=by
     rw [← HW.out]
     exact HKK.out.setCell (show InN C i K.dn from .inr (.inr (by have e:=HN.out.c9; rw [← HC.out K.dn (H.out.lt _ (by have:=H.out.c9; have:=H.out.i7; omega))]; exact e))) _
    have hW:=HW.out
    obtain ⟨-,x4,f4⟩:=HM.out.cells
    obtain ⟨av,cv,hv⟩:=own_slice HM.out.evs
    simp only at hv x4
    rw [hv] at x4
    have HV:=hid hv
    obtain ⟨fl,HL⟩:∃ fl,Hid ((noteL F i g p k).length=fl):=⟨_,rfl⟩
    have HLE:Hid (fl≤500):=by rw [← HL.out]; exact HM.out.le
    rw [HL.out] at x4
    by_cases hfl:fl<500
    ·have HE2:Hid (noteL F i g p (k+1)=noteL F i g p k ++ [⟨i,k,p k⟩]):=by
      show noteL _ _ _ _ _=_
      rw [noteL,if_pos ⟨HQ.out,HB.out,by rw [HL.out]; exact hfl⟩]
     obtain ⟨W2,HW2⟩:∃ W2,Hid (W.alloc (.cells #[.int .i64 (i:Int),.int .i64 (k:Int),.int .i64 ((p k:Nat):Int)] 121)=W2):=⟨_,rfl⟩
     have hW2:=HW2.out
     have HB2:Hid (Below W.heap.size W W2):=by rw [← HW2.out]; exact (Below.refl _ _).alloc (Nat.le_refl _) _
     have HLc:Hid (∀ j u,(e3L ⟨i,k,p k⟩)[j]? = some u→W2.cell? ((⟨W.heap.size,0,none⟩:Addr).add j)=some u):=by rw [← HW2.out]; exact lit_cellsQ W 121 (e3L ⟨i,k,p k⟩)
     have HM2:=hid (HM.out.later HB2.out)
     have HO:Hid (W2.ownsRow b0 121 3 (.slice av fl cv) fl (evCells (noteL F i g p k))):=by
      have:=HM2.out.evs
      simp only at this
      rw [HV.out,HL.out] at this; exact this
     have hb2:b0≤W2.heap.size:=Nat.le_trans hb (Nat.le_trans HKW.out.size HB2.out.size)
     have HX:Hid (∀ ad' cap' w',w'.ownsRow b0 121 3 (.slice ad' (fl+1) cap') (fl+1) (evCells (noteL F i g p k) ++ e3L ⟨i,k,p k⟩)→W2.grownBy w' (Value.slice av fl cv).ownBlock→((Value.slice ad' (fl+1) cap').ownBlock=(Value.slice av fl cv).ownBlock ∨ (Value.slice ad' (fl+1) cap').ownBlock=some W2.heap.size)→w'.cell? ⟨Y.xb,4,none⟩=some (.slice av fl cv)∧w'.frozen? ⟨Y.xb,4,none⟩=false∧NTo b0 w (w'.setCell ⟨Y.xb,4,none⟩ (.slice ad' (fl+1) cap')) C Y K aw cap n i (noteG g p (k+1)) E (noteL F i g p (k+1))):=by
      intro ad' cap' w' h1 h2 h3
      have hv2:=HV.out
      rw [HL.out] at hv2
      have q1:=(grown_kept h2).row HM2.out.row (fun e=>by
       have h9:=HM2.out.ce _ (by simp only; rw [hv2]; exact e)
       have h8:=HM2.out.cx
       exact absurd (h9.symm.trans h8) (by decide))
      refine ⟨by rw [cell_of_row _ _ _ _ _ _ q1]; simp [rwC,hv2],frozen_of_row _ _ _ _ _ q1,?_⟩
      refine NTo.step (C1:=C1) (v1:=v1) (HKW.out.trans (Kept.of_below HB2.out)) HC.out ?_
      rw [HE2.out]
      exact HM2.out.push (by rw [HL.out]; exact h1) (by simp only; rw [hv2]; exact h2) (by simp only; rw [hv2]; exact h3) (by rw [HL.out]; exact hfl)
     clear HN HM HM2
     go_wp2_with fail
     refine (HF.out _).mono ?_
     rintro e w1 ⟨rfl,rfl⟩
     go_wp2_with (at_builtin; refine wpList_append_mev rfl _ _ rfl b0 fl (.slice av fl cv) ⟨W.heap.size,0,none⟩ 1 _ ⟨i,k,p k⟩ rfl rfl HO.out HLc.out (by omega) hb2 ?_; intro ad' cap' w' h1 h2 h3; obtain ⟨y2,z2,ho2⟩:=HX.out ad' cap' w' h1 h2 h3; have HZ:=hid ho2; clear h1 h2 h3 ho2)
     go_roundw
     case rel=>exact ⟨k+1,by omega,by go_num,HZ.out⟩
     case measure=>simp [intOf]; omega
    ·have HX:Hid (NTo b0 w W C Y K aw cap n i (noteG g p (k+1)) E (noteL F i g p (k+1))):=by
      have a2:noteL F i g p (k+1)=noteL F i g p k:=by rw [noteL,if_neg (by rw [HL.out]; omega)]
      show NTo _ _ _ _ _ _ _ _ _ _ _ _ _
      rw [a2]
      exact ⟨C1,v1,HM.out,HKW.out,HC.out⟩
     obtain rfl:fl=500:=by have:=HLE.out; omega
     clear HN HM
     go_wp2_with fail
     refine (HF.out _).mono ?_
     rintro e w1 ⟨rfl,rfl⟩
     go_wp2_with fail
     go_roundw
     case rel=>exact ⟨k+1,by omega,by go_num,HX.out⟩
     case measure=>simp [intOf]; omega
  ·obtain rfl:k=6:=by omega
   clear hN
   go_wp2_with fail
   go_end0
   exact ⟨rfl,C1,v1,HN.out,HKK.out,HC.out⟩
end
theorem fin_stays {a b:Nat} (h:mayN a b) (hf:finB a=true):b=a:=by
 unfold mayN at h
 unfold finB at hf
 simp at hf
 omega
theorem oHN_off {n m:Nat} {N:PN} {f:F9} (h:NI n N m) (hu:N.l≠-2) (hf:FI n f) (hm:m<4000000000) (hc:(oHN N f).c=6):(oHN N f).l=-2:=by
 have hov:=h.up hu
 have hd:f.d.toNat<6:=by have:=hf.ok.2.2.1; omega
 have ha:f.a.toNat≤1048576:=by have:=hf.ok.2.2.2.2.1; omega
 have hp:f.ph.toNat≤5:=by have:=hf.ok.2.2.2.2.2.1; omega
 have hg:=hear_good (stN N f.d.toNat) (N.R f.d.toNat) f.k.toNat f.a.toNat f.ph.toNat (h.gd _ hd) ha hp
 have hw:Well N.B false N.l m:=⟨h.gd,h.nm,fun _=>hu⟩
 have ho2:pOut (dealL N.B.data.toList) false N.B N.l f.d.toNat (gHN N f).st.ph (gHN N f).st.pr (gHN N f).st.at_=oHN N f:=by rw [← hov]; rfl
 obtain ⟨-,-,q3⟩:=pOut_more (by have:=h.sz; omega) hw hm hd hg.1 h.l0 h.l1 ho2
 rcases q3 with ⟨c,-⟩|⟨-,-,hl⟩
 ·rw [hc] at c; cases c
 ·exact hl
section
variable {w0 w w1 w':World} {C C':Nat→Nat} {K:RB} {Y:YB} {aw:Option Addr} {i n cap m m':Nat} {zs:List Int} {N:PN} {V V':PX}
theorem RW.both {S:Nat→Prop} {N:PN} {K:RB} {ev:Value} {E:List E3} (h:RW w0 w C Y aw cap zs V m) (k:Kept S w w') (hi:i<zs.length) (hS:∀ x,S x→C x / 100=i ∨ C x=1001 ∨ C x=1006) (hC:∀ x,x<w.heap.size→C' x=C x) (hl:∀ x,w.heap.size≤x→C' x<2000→x<w'.heap.size) (hr:w'.heap[Y.xb]? = some (.cells (rwC { Y with ev:=ev } aw zs.length cap).toArray 147 (0,0))) (he:w'.ownsRow w0.heap.size 121 3 ev E.length (evCells E)) (ce:∀ g,ev.ownBlock=some g→C' g=1006)
  (hN:RN w' C' K i zs.length cap aw N) (hK:K.nd=(Y.K i).nd) (hm:m≤m') (hI:XI zs { setNd V i N with evs:=E } m') :
  RW w0 w' C' { Y with ev:=ev,K:=fun e=>if e=i then K else Y.K e } aw cap zs { setNd V i N with evs:=E } m':=by
 have n7:=h.n7.2
 have hs0:=h.bel.size
 have hlow:∀ x,S x→w0.heap.size≤x:=fun x hx=>h.low x (by have:=hS x hx; omega)
 have nS:∀ x,C x / 100≠i→C x≠1001→C x≠1006→¬ S x:=fun x h1 h2 h3 hs=>by have:=hS x hs; omega
 obtain ⟨L,b1,b2,b3⟩:=h.brk
 have cx:=h.cx; have cn:=h.cn
 have o:∀ {x c:Nat},C x=c→c<2000→C' x=c:=fun {x c} e hc=>(hC x (h.lt x (by omega))).trans e
 refine ⟨k.below h.bel.size hlow h.bel,hr,h.ws,fun e he=>?_,fun e he=>?_,⟨L,own_kept b1 k (fun g hg=>nS g (by have:=h.cb g hg; omega) (by have:=h.cb g hg; omega) (by have:=h.cb g hg; omega)),b2,by omega⟩,own_kept h.fly k (fun g hg=>nS g (by have:=h.cf g hg; omega) (by have:=h.cf g hg; omega) (by have:=h.cf g hg; omega)),he,o h.cx (by omega),o h.cn (by omega),fun g hg=>o (h.cb g hg) (by omega),fun g hg=>o (h.cf g hg) (by omega),ce,fun x hx=>?_,fun x hx=>?_,hI⟩
 ·have:=cell_kept (h.ns e he) k (nS Y.nb (by omega) (by omega) (by omega))
  rw [this]
  by_cases g:e=i
  ·subst g; simp [hK]
  ·simp [g]
 ·by_cases g:e=i
  ·subst g
   simpa [setNd] using hN
  ·have hcol:=(h.nds e he).col (C':=C') hC
   have:=hcol.kept (S:=fun x=>S x∧x<w.heap.size) (w':=w') ⟨k.os,k.tape,k.output,k.size,fun y hy hn=>k.block y hy (fun hs=>hn ⟨hs,hy⟩)⟩ (fun x hx hs=>nS x (by rw [← hC x hs.2]; omega) (by rw [← hC x hs.2]; omega) (by rw [← hC x hs.2]; omega) hs.1)
   simpa [setNd,g] using this
 ·rcases Nat.lt_or_ge x w.heap.size with q|q
  ·exact Nat.lt_of_lt_of_le q k.size
  ·exact hl x q hx
 ·rcases Nat.lt_or_ge x w.heap.size with q|q
  ·exact h.low x (by rw [← hC x q]; exact hx)
  ·omega
theorem RN.heard {S:Nat→Prop} {B:ByteArray} {l:Int} {ov:Bool} (h:RN w C K i n cap aw N) (hu:upN N=true) (hl:l≠-2) (i7:i<7) (k:Kept S w w') (hS:∀ x,S x→C x=1001 ∨ C x=1006 ∨ C x=100 * i+3 ∨ C x=100 * i+4 ∨ C x=100 * i+5 ∨ C x=100 * i+7 ∨ C x=100 * i+9) (hC:∀ x,x<w.heap.size→C' x=C x) (hj:RK w' K.m K.gn K.gs K.r (dealL B.data.toList) ov B l) (hd:VR w' K.dn (fun d=>finB (dealL B.data.toList d).2.ph)) :
  RN w' C' K i n cap aw { N with B:=B,l:=l,over:=ov }:=by
 have e1:=h.cn; have e2:=h.cr; have e3:=h.cl; have e4:=h.cd
 obtain ⟨c1,c2,c3,c4,c5⟩:=h.cu hu
 obtain ⟨u1,u2⟩:=h.up hu
 obtain ⟨t1,t2,t3,t4⟩:=u1.lts
 have no:∀ x,(C x≠1001∧C x≠1006∧C x≠100 * i+3∧C x≠100 * i+4∧C x≠100 * i+5∧C x≠100 * i+7∧C x≠100 * i+9)→¬ S x:=fun x q hs=>by have:=hS x hs; omega
 have hru:upN { N with B:=B,l:=l,over:=ov }=upN N:=by rw [hu]; unfold upN; simpa using hl
 have hrc:rndC K { N with B:=B,l:=l,over:=ov }=rndC K N:=by unfold rndC rsV; rw [hru]
 refine ⟨by rw [hrc]; exact k.row h.row (no _ (by omega)),hj.rp,fun _=>⟨hj,u2.kept k (no _ (by omega)) (no _ (by omega))⟩,k.row h.lrow (no _ (by omega)),hd,fun d hd x hx=>?_,(hC _ (row_ltJ h.row)).trans e1,(hC _ t4).trans e2,(hC _ (row_ltJ h.lrow)).trans e3,(hC _ (row_ltJ h.drow)).trans e4,fun _=>⟨(hC _ (row_ltJ u2.row)).trans c1,(hC _ t1).trans c2,(hC _ t2).trans c3,(hC _ t3).trans c4,(hC _ (row_ltJ u2.refs)).trans c5⟩,fun d hd x hx=>?_⟩
 ·obtain ⟨L,r1,r2⟩:=h.lds d hd x hx
  obtain ⟨b1,b2⟩:=h.ce d hd x hx
  exact ⟨L,r1,r2.kept k (no _ (by omega)) (fun g hg=>no g (by have:=b2 g hg; omega))⟩
 ·obtain ⟨L,r1,r2⟩:=h.lds d hd x hx
  obtain ⟨b1,b2⟩:=h.ce d hd x hx
  exact ⟨(hC _ (row_ltJ r2.row)).trans b1,fun g hg=>(hC _ ((r2.own.lt g hg).2)).trans (b2 g hg)⟩
theorem RW.nt {E:Nat→Nat×St} {ov:Bool} {B:ByteArray} {l:Int} (h:RW w0 w C Y aw cap zs V m) (hi:i<zs.length) (hu:upN (V.nd i)=true) (k:Kept (In4 (Y.K i).m (Y.K i).gn (Y.K i).gs (Y.K i).r) w w') (hj:RK w' (Y.K i).m (Y.K i).gn (Y.K i).gs (Y.K i).r E ov B l) :
  NT w0.heap.size w' C Y (Y.K i) aw cap zs.length i (fun d=>finB (stN (V.nd i) d).ph) E V.evs:=by
 have n7:=h.n7.2
 have hN:=h.nds i hi
 have e1:=hN.cn; have e2:=hN.cr; have e3:=hN.cl; have e4:=hN.cd; have cx:=h.cx; have cn:=h.cn
 obtain ⟨c1,c2,c3,c4,c5⟩:=hN.cu hu
 obtain ⟨-,u2⟩:=hN.up hu
 obtain ⟨d0,-,-,d3⟩:=hN.cells
 unfold rsV at d0
 rw [hu,if_pos rfl] at d0
 obtain ⟨-,s1,-⟩:=u2.cells
 obtain ⟨cnn,cs,-,-,j2,-⟩:=hj.cells
 have no:∀ x,C x≠100 * i+3→C x≠100 * i+4→C x≠100 * i+5→C x≠100 * i+7→¬ In4 (Y.K i).m (Y.K i).gn (Y.K i).gs (Y.K i).r x:=fun x h1 h2 h3 h4 hx=>by
  rcases hx with rfl|rfl|rfl|rfl <;> omega
 exact ⟨k.row h.row (no _ (by omega) (by omega) (by omega) (by omega)),cell_kept (h.ns i hi) k (no Y.nb (by omega) (by omega) (by omega) (by omega)),cell_kept d0 k (no (Y.K i).nd (by omega) (by omega) (by omega) (by omega)),cell_kept d3 k (no (Y.K i).nd (by omega) (by omega) (by omega) (by omega)),cell_kept s1 k (no (Y.K i).t (by omega) (by omega) (by omega) (by omega)),⟨cs,j2⟩,fun d hd=>(hj.st hd).1,k.row hN.drow (no _ (by omega) (by omega) (by omega) (by omega)),own_kept h.evs k (fun g hg=>no g (by have:=h.ce g hg; omega) (by have:=h.ce g hg; omega) (by have:=h.ce g hg; omega) (by have:=h.ce g hg; omega)),h.inv.ev,by omega,cx,cn,e1,c1,c2,c4,e4,h.ce,fun x hx=>Nat.lt_of_lt_of_le (h.lt x hx) k.size⟩
def ROutF (w0 w w':World) (C:Nat→Nat) (Y:YB) (aw:Option Addr) (cap:Nat) (zs:List Int) (V':PX) (m':Nat) (v:Value) (L:List F9):Prop :=
 ∃ C' Y',RW w0 w' C' Y' aw cap zs V' m'∧rkey Y'=rkey Y∧Kept (OwnX C) w w'∧(∀ x,x<w.heap.size→C' x=C x)∧FrF w' C' w.heap.size v L
theorem RW.heardOut {B:ByteArray} {l:Int} {ov:Bool} {E:List E3} {gg:Nat→Bool} (h:RW w0 w C Y aw cap zs V m) (hi:i<zs.length) (hu:upN (V.nd i)=true) (hl:l≠-2) (k1:Kept (In4 (Y.K i).m (Y.K i).gn (Y.K i).gs (Y.K i).r) w w1) (hj:RK w1 (Y.K i).m (Y.K i).gn (Y.K i).gs (Y.K i).r (dealL B.data.toList) ov B l) (hn:NTo w0.heap.size w1 w' C Y (Y.K i) aw cap zs.length i gg (dealL B.data.toList) E) (hg:∀ d,d<6→gg d=finB (dealL B.data.toList d).2.ph) (hm:m≤m') (hI:XI zs { setNd V i { V.nd i with B:=B,l:=l,over:=ov } with evs:=E } m') :
  ∃ C' Y',RW w0 w' C' Y' aw cap zs { setNd V i { V.nd i with B:=B,l:=l,over:=ov } with evs:=E } m'∧rkey Y'=rkey Y∧Kept (OwnX C) w w'∧(∀ x,x<w1.heap.size→C' x=C x)∧Kept (OwnX C) w1 w':=by
 have n7:=h.n7.2
 obtain ⟨C',v,t,k2,hC⟩:=hn
 have hN:=h.nds i hi
 have e1:=hN.cn; have e2:=hN.cr; have e3:=hN.cl; have e4:=hN.cd
 obtain ⟨c1,c2,c3,c4,c5⟩:=hN.cu hu
 have hs1:=k1.size
 have hCw:∀ x,x<w.heap.size→C' x=C x:=fun x hx=>hC x (by omega)
 have ci4:∀ x,In4 (Y.K i).m (Y.K i).gn (Y.K i).gs (Y.K i).r x→C x=100 * i+3 ∨ C x=100 * i+4 ∨ C x=100 * i+5 ∨ C x=100 * i+7:=fun x hx=>by
  rcases hx with rfl|rfl|rfl|rfl <;> omega
 have nN:∀ x,(C x=100 * i+3 ∨ C x=100 * i+4 ∨ C x=100 * i+5 ∨ C x=100 * i+7)→¬ InN C i x:=fun x q hx=>by
  rcases hx with g|g|g <;> omega
 have k:Kept (fun x=>C x=1001 ∨ C x=1006 ∨ C x=100 * i+3 ∨ C x=100 * i+4 ∨ C x=100 * i+5 ∨ C x=100 * i+7 ∨ C x=100 * i+9) w w' :=
  (k1.mono (fun x hx=>by have:=ci4 x hx; omega)).trans (k2.mono (fun x hx=>by rcases hx with g|g|g <;> omega))
 have hj2:=hj.kept k2 (nN _ (.inl c2)) (nN _ (.inr (.inl c3))) (nN _ (.inr (.inr (.inl c4)))) (nN _ (.inr (.inr (.inr e2))))
 have hd:VR w' (Y.K i).dn (fun d=>finB (dealL B.data.toList d).2.ph):=by
  have:=t.drow
  unfold VR at this ⊢
  rw [this]
  simp only [hg 0 (by omega),hg 1 (by omega),hg 2 (by omega),hg 3 (by omega),hg 4 (by omega),hg 5 (by omega)]
 have hRN:=hN.heard (C':=C') hu hl (by omega) k (fun x hx=>hx) hCw hj2 hd
 refine ⟨C',_,h.both (ev:=v) (E:=E) k hi (fun x hx=>by omega) hCw (fun x hx hc=>t.lt x hc) t.row t.evs t.ce hRN rfl hm hI,rkey_K rfl,k.mono (fun x hx=>by show C x<2000; omega),hC,k2.mono (fun x hx=>by show C x<2000; rcases hx with g|g|g <;> omega)⟩
end
section
variable {w0 w w1 w':World} {C C':Nat→Nat} {K:RB} {Y:YB} {aw:Option Addr} {i n cap m m':Nat} {zs:List Int} {N:PN} {V V':PX}
theorem hearX_0 {V:PX} {i d:Nat} {F:F9} (hd:F.d.toNat=d):hearX V i F={ setNd V i (hearN (V.nd i) F) with evs:=noteE V.evs i d (stN (V.nd i) d).ph (stN (hearN (V.nd i) F) d).ph }:=by unfold hearX; rw [hd]
theorem noteE_same (E:List E3) (i d a:Nat):noteE E i d a a=E:=by unfold noteE; rw [if_neg (fun h=>h.1 rfl)]
theorem XI.noteE {V:PX} {d a b:Nat} (h:XI zs V m):XI zs { V with evs:=noteE V.evs i d a b } m :=
 ⟨h.he,h.nd,h.fr,h.fl,by
  show (Go.Proofs.YtadhpkopkkjmfaaGreatDoor.noteE V.evs i d a b).length≤500
  have:=h.ev
  unfold Go.Proofs.YtadhpkopkkjmfaaGreatDoor.noteE
  split
  ·rename_i q; rw [List.length_append]; simp only [List.length_cons,List.length_nil]; omega
  ·exact this⟩
theorem rwhear_any (f d k a ph pr pa:Nat) (y:Bool) (F:F9) (hF:F=frN f i d k a y ph pr pa) (h:RW w0 w C Y aw cap zs V m) (hi:i<zs.length) (hu:upN (V.nd i)=true) (hf:FI zs.length F) (hm:m<100000000) :
  Calls Tryz.prog 125 #[.pointer (some ⟨Y.xb,0,none⟩),.int .i64 (i:Int),frV (f:Int) (i:Int) (d:Int) (k:Int) (a:Int) y (ph:Int) (pr:Int) (pa:Int)] w fun e w'=>∃ v,e=.returned (.tuple #[v,.bool (upN (hearN (V.nd i) F))])∧ROutF w0 w w' C Y aw cap zs (hearX V i F) (m+1) v (ansN i (V.nd i) F):=by
 have hd:d<6:=by have:=hf.ok.2.2.1; rw [hF] at this; have:(0:Int)≤d∧(d:Int)≤5:=this; omega
 have hl2:(V.nd i).l≠-2:=by unfold upN at hu; simpa using hu
 obtain ⟨W,HW⟩:∃ W,Hid (w.alloc (.cells #[.int .i64 (f:Int),.int .i64 (i:Int),.int .i64 (d:Int),.int .i64 (k:Int),.int .i64 (a:Int),.bool y,.int .i64 (ph:Int),.int .i64 (pr:Int),.int .i64 (pa:Int)] 104)=W):=⟨_,rfl⟩
 have HB:Hid (Below w.heap.size w W):=by rw [← HW.out]; exact (Below.refl _ _).alloc (Nat.le_refl _) _
 have HR:Hid (W.heap[w.heap.size]? = some (.cells #[.int .i64 (f:Int),.int .i64 (i:Int),.int .i64 (d:Int),.int .i64 (k:Int),.int .i64 (a:Int),.bool y,.int .i64 (ph:Int),.int .i64 (pr:Int),.int .i64 (pa:Int)] 104 (0,0))):=by rw [← HW.out]; exact heap_alloc_new w _
 obtain ⟨b0,b1,b2,b3,b4,b5,b6,b7,b8⟩:=nine HR.out
 have H0:=hid h
 have H1:=hid (h.later HB.out)
 have HI:=hid hi
 have HU:=hid hu
 have HFI:=hid hf
 have HF:=hid hF
 obtain ⟨-,c1,-,-,-⟩:=H1.out.cells
 have c2:=H1.out.ns i hi
 have hN:=H1.out.nds i hi
 obtain ⟨d0,-,-,-⟩:=hN.cells
 unfold rsV at d0
 rw [hu,if_pos rfl] at d0
 have n7:=h.n7
 have HH:=hid (hearN_hf (h.inv.nd i hi) hl2 hf (by omega))
 have HL6:=hid (oHN_off (h.inv.nd i hi) hl2 hf (by omega))
 obtain ⟨n,hn7⟩:∃ n,Hid (zs.length=n):=⟨_,rfl⟩
 rw [hn7.out] at c1 hi n7
 have hFd:F.d.toNat=d:=by rw [hF]; exact Int.toNat_natCast d
 obtain ⟨g,HG⟩:∃ g,Hid (gHN (V.nd i) F=g):=⟨_,rfl⟩
 obtain ⟨o,HO⟩:∃ o,Hid (oHN (V.nd i) F=o):=⟨_,rfl⟩
 have HG2:Hid (hearL (dlN (V.nd i) d).2 ((V.nd i).R d) k a ph=g):=by rw [← HG.out,hF]; rfl
 have HO2:Hid (pOut (dlN (V.nd i)) (V.nd i).over (V.nd i).B (V.nd i).l d g.st.ph g.st.pr g.st.at_=o):=by rw [← HO.out,← HG.out,hF]; rfl
 have HFO:Hid (frOk f i d k a ph pr pa):=by have:=hf.ok; rw [hF] at this; exact this
 have HNM:Hid (∀ e,e<6→((dlN (V.nd i)) e).1<4294967296):=fun e he=>by have:=(h.inv.nd i HI.out).nm e he; omega
 have HNS:Hid (∀ x,w.heap.size≤x→¬ In4 (Y.K i).m (Y.K i).gn (Y.K i).gs (Y.K i).r x):=fun x hx e=>by
  obtain ⟨e1,e2,e3,e4⟩:=((h.nds i HI.out).up hu).1.lts
  unfold In4 at e; omega
 have HNC:Hid (C (Y.K i).nd=100 * i+1∧C (Y.K i).t=100 * i+2∧∀ x,In4 (Y.K i).m (Y.K i).gn (Y.K i).gs (Y.K i).r x→C x=100 * i+3 ∨ C x=100 * i+4 ∨ C x=100 * i+5 ∨ C x=100 * i+7):=by
  obtain ⟨c1,c2,c3,c4,c5⟩:=(h.nds i HI.out).cu hu
  have e2:=(h.nds i HI.out).cr
  refine ⟨(h.nds i HI.out).cn,c1,fun x hx=>?_⟩
  rcases hx with rfl|rfl|rfl|rfl <;> omega
 have HND:Hid (¬ In4 (Y.K i).m (Y.K i).gn (Y.K i).gs (Y.K i).r (Y.K i).nd):=fun e=>by have:=HNC.out.2.2 _ e; have:=HNC.out.1; omega
 have HNT:Hid (¬ In4 (Y.K i).m (Y.K i).gn (Y.K i).gs (Y.K i).r (Y.K i).t):=fun e=>by have:=HNC.out.2.2 _ e; have:=HNC.out.2.1; omega
 have hW:=HW.out
 clear h hu hf hF hN hl2
 go_enter Tryz.func125,Tryz.ntmps125
 go_wp2_with fail
 go_region_held3 (fun V=>V.cell? ⟨(Y.K i).nd,0,none⟩=some (.pointer (some ⟨(Y.K i).t,0,none⟩))∧V.cell? ⟨w.heap.size,0,none⟩=some (.int .i64 (f:Int))∧V.cell? ⟨w.heap.size,1,none⟩=some (.int .i64 (i:Int))∧V.cell? ⟨w.heap.size,2,none⟩=some (.int .i64 (d:Int))∧V.cell? ⟨w.heap.size,3,none⟩=some (.int .i64 (k:Int))∧V.cell? ⟨w.heap.size,4,none⟩=some (.int .i64 (a:Int))∧V.cell? ⟨w.heap.size,5,none⟩=some (.bool y)∧V.cell? ⟨w.heap.size,6,none⟩=some (.int .i64 (ph:Int))∧V.cell? ⟨w.heap.size,7,none⟩=some (.int .i64 (pr:Int))∧V.cell? ⟨w.heap.size,8,none⟩=some (.int .i64 (pa:Int))) (go_keep) (first|(go_at_call 158; (with_reducible refine (rhear_fr (Y.K i).t (Y.K i).m (Y.K i).gb (Y.K i).gn (Y.K i).gs (Y.K i).r i f d k a ph pr pa y (V.nd i).R (dlN (V.nd i)) (V.nd i).over (V.nd i).B (V.nd i).l _ g o ((H1.out.drew.nds i HI.out).up HU.out).2 ((H1.out.drew.nds i HI.out).up HU.out).1 HNM.out HFO.out HG2.out HO2.out HNT.out).mono ?_); rintro e w4 ⟨v,rfl,ha4,hj4,hk4,hf4⟩; have q0:=keptCell hk4 d0 HND.out; have q1:=keptCell hk4 b0 (HNS.out _ (Nat.le_refl _)); have q2:=keptCell hk4 b1 (HNS.out _ (Nat.le_refl _)); have q3:=keptCell hk4 b2 (HNS.out _ (Nat.le_refl _)); have q4:=keptCell hk4 b3 (HNS.out _ (Nat.le_refl _)); have q5:=keptCell hk4 b4 (HNS.out _ (Nat.le_refl _)); have q6:=keptCell hk4 b5 (HNS.out _ (Nat.le_refl _)); have q7:=keptCell hk4 b6 (HNS.out _ (Nat.le_refl _)); have q8:=keptCell hk4 b7 (HNS.out _ (Nat.le_refl _)); have q9:=keptCell hk4 b8 (HNS.out _ (Nat.le_refl _)); have HA4:=hid (And.intro ha4 (And.intro hj4 (And.intro hk4 hf4))); clear ha4 hj4 hk4 hf4))
 clear q0 q1 q2 q3 q4 q5 q6 q7 q8 q9 b0 b1 b2 b3 b4 b5 b6 b7 b8 c1 c2 d0
 have HOE:Hid (o.e=dealL o.b.data.toList):=by have:=HH.out.e; rw [HO.out] at this; rw [this]; unfold dlN; rw [hearN_B,HO.out]; exact rfl
 have HJ4:Hid (RK w4 (Y.K i).m (Y.K i).gn (Y.K i).gs (Y.K i).r (dealL o.b.data.toList) o.over o.b o.l):=by have:=HA4.out.2.1; rw [HOE.out] at this; exact this
 have HK4:Hid (Kept (In4 (Y.K i).m (Y.K i).gn (Y.K i).gs (Y.K i).r) w w4):=(Kept.of_below HB.out).trans ((Kept.refl _ W).drew.trans HA4.out.2.2.1)
 have HFr4:Hid (FrF w4 C w.heap.size v (ansN i (V.nd i) F)):=by
  have:=AnsV.frf (w:=w4) (C:=C) (id:=i) (f:=F) (g:=g) (c:=o.c) (base:=w.heap.size) (v:=v) (by rw [HF.out]; exact HA4.out.1) (fun a cp e=>Nat.le_trans HB.out.size (HA4.out.2.2.2 a cp e)) (fun x hx=>by rcases Nat.lt_or_ge (C x) 2000 with q|q; (have:=H0.out.lt x q; omega); exact q)
  unfold ansN
  rw [HG.out,HO.out]
  exact this
 have HBD:Hid (∀ e,stN (hearN (V.nd i) F) e=(dealL o.b.data.toList e).2):=fun e=>by unfold stN dlN; rw [hearN_B,HO.out]
 have hupc:=HH.out.up
 rw [HO.out] at hupc
 rcases HH.out.c with hc|hc
 ·have hN0:=hearN_0 hc
  rw [HO.out] at hc hN0
  have hci:(o.c:Int)=0:=by omega
  have hut:upN (hearN (V.nd i) F)=true:=by rw [hupc,hc]; rfl
  rw [hci]
  have HUT:=hid hut
  have hlo:o.l≠-2:=by rw [hN0] at hut; unfold upN at hut; simpa using hut
  have HLO:=hid hlo
  have HN0:=hid hN0
  have HYS:=hid (HH.out.yes (by rw [HO.out]; exact hc))
  clear hupc hut hlo hN0 HA4
  go_wp2_with fail
  refine (rnote_any (H0.out.nt HI.out HU.out HK4.out HJ4.out) (by rw [hn7.out]; exact hi) (Nat.le_trans H0.out.bel.size HK4.out.size)).mono ?_
  rintro e w5 ⟨rfl,hn5⟩
  have HN5:=hid hn5
  clear hn5
  go_wp2_with fail
  go_ret2
  refine ⟨v,by rw [HUT.out]; rfl,?_⟩
  have hgg:∀ e,e<6→(finB (stN (V.nd i) e).ph=true→finB (dealL o.b.data.toList e).2.ph=true):=fun e he hfe=>by
   rw [← HBD.out e]
   by_cases g:e=d
   ·have q1:=HH.out.may
    have q2:=HYS.out
    rw [hFd] at q1 q2
    rw [g] at hfe ⊢
    rw [q2,fin_stays q1 hfe]
    exact hfe
   ·have:=HH.out.other e (by rw [hFd]; exact g)
    unfold stN
    rw [this]
    exact hfe
  have hev:noteL V.evs i (fun d=>finB (stN (V.nd i) d).ph) (fun d=>(dealL o.b.data.toList d).2.ph) 6=noteE V.evs i d (stN (V.nd i) d).ph (stN (hearN (V.nd i) F) d).ph:=by
   rw [HBD.out d]
   refine noteL_one hd (fun e he hne=>?_) rfl (fun hfe=>?_)
   ·show finB (stN (V.nd i) e).ph=finB (dealL o.b.data.toList e).2.ph
    rw [← HBD.out e]
    have:=HH.out.other e (by rw [hFd]; exact hne)
    unfold stN
    rw [this]
   ·show (dealL o.b.data.toList d).2.ph=_
    rw [← HBD.out d]
    have q1:=HH.out.may
    have q2:=HYS.out
    rw [hFd] at q1 q2
    rw [q2]
    exact fin_stays q1 hfe
  have hn6:=HN5.out
  rw [hev] at hn6
  have hX:XI zs { setNd V i (hearN (V.nd i) F) with evs:=noteE V.evs i d (stN (V.nd i) d).ph (stN (hearN (V.nd i) F) d).ph } (m+1):=(H0.out.inv.node HH.out.ni (Nat.le_succ _)).noteE
  have hout:=H0.out.heardOut (m':=m+1) HI.out HU.out HLO.out HK4.out HJ4.out hn6 (fun e he=>noteG_six he (hgg e he)) (Nat.le_succ _) (by rw [← HN0.out]; exact hX)
  rw [← HN0.out,← hearX_0 hFd] at hout
  obtain ⟨C',Y',x1,x2,x3,x4,x5⟩:=hout
  exact ⟨C',Y',x1,x2,x3,fun x hx=>x4 x (Nat.lt_of_lt_of_le hx HK4.out.size),HFr4.out.kept x5 x4⟩
 ·have hN6:=hearN_6 hc
  have hl6:=HL6.out hc
  rw [HO.out] at hc hN6 hl6
  have hci:(o.c:Int)=6:=by omega
  have huf:upN (hearN (V.nd i) F)=false:=by rw [hupc,hc]; rfl
  rw [hci]
  have HUF:=hid huf
  have HSame:Hid (∀ e,e<6→finB (dealL o.b.data.toList e).2.ph=finB (stN (V.nd i) e).ph):=fun e he=>by
   rw [← HBD.out e]
   by_cases g:e=d
   ·have:=HH.out.no (by rw [HO.out]; exact hc)
    rw [hFd] at this
    rw [g]
    unfold stN
    rw [this]
   ·have:=HH.out.other e (by rw [hFd]; exact g)
    unfold stN
    rw [this]
  have HS6:Hid (stN (hearN (V.nd i) F) d=stN (V.nd i) d):=by
   have:=HH.out.no (by rw [HO.out]; exact hc)
   rw [hFd] at this
   show stN _ _=_
   unfold stN
   rw [this]
  have HRow:=hid (HK4.out.row (H0.out.nds i HI.out).row HND.out)
  have HN6:=hid hN6
  have HL:=hid hl6
  have HC6:=hid hc
  clear hupc huf hN6 HA4 hl6
  go_wp2_with fail
  refine (rfall_any HRow.out).mono ?_
  rintro e w5 ⟨rfl,rfl⟩
  go_wp2_with fail
  go_ret2
  refine ⟨.slice none 0 0,by rw [HUF.out]; rfl,?_⟩
  have hRP:=HJ4.out.rp
  rw [HL.out] at hRP
  have hni:=HH.out.ni
  have e6:hearN (V.nd i) F=fallN { V.nd i with B:=o.b,over:=o.over }:=HN6.out
  have hout:=H0.out.fell (m':=m+1) (ov:=o.over) HI.out HK4.out (fun x hx=>by have:=HNC.out.2.2 x hx; omega) hRP HSame.out (Nat.le_succ _) (by rw [← e6]; exact hni)
  rw [← e6] at hout
  have hx:hearX V i F=setNd V i (hearN (V.nd i) F):=by rw [hearX_0 hFd,HS6.out,noteE_same]; rfl
  rw [hx]
  obtain ⟨C',Y',x1,x2,x3,x4⟩:=hout
  refine ⟨C',Y',x1,x2,x3,x4,?_⟩
  have:ansN i (V.nd i) F=[]:=by unfold ansN; rw [HO.out,if_neg (fun q=>by have:=HC6.out; omega)]
  rw [this]
  exact FrF.nil _ _ _
end
end Go.Proofs.YtadhpkopkkjmfaaGreatDoor
