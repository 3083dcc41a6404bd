/-
  On the way to SPlaysProof: XR XS XF XG.
-/
import Derived.Test.YtaehdgemkafinaaGreatDoorBw24
set_option maxHeartbeats 8000000
set_option maxRecDepth 100000
namespace Go.Proofs.YtaehdgemkafinaaGreatDoor
open Go.RowKit
theorem Tryz.infoMEv:(Tryz.prog.info? 77).map (fun i=>(i.zero,i.size,i.bytes))=some (some (.agg #[.int .i64 0,.int .i64 0,.int .i64 0]),3,24):=by kernel_rfl
theorem wpList_append_mev {w:World} {ops:Array Oper} {rest:List Oper} {o:Oper} {a:Act} {Q:Exit→Act→World→Prop} (hgd:o.guard=none) (s x:Operand)
  (ho:o.op=.call { callee:=.builtin .append,args:=#[s,x],argTypes:=#[56,56] })
  (base n:Nat) (v:Value) (ad:Addr) (c:Nat) (xs:List Value) (e:E3) (hs:a.eval s=v) (hx:a.eval x=.slice (some ad) 1 c) (hown:w.ownsRow base 77 3 v n xs) (hu:∀ j u,(e3L e)[j]? = some u→w.cell? (ad.add j)=some u) (hn:n≤1000000000000) (hb:base≤w.heap.size)
  (h:∀ ad' cap' w',w'.ownsRow base 77 3 (.slice ad' (n+1) cap') (n+1) (xs ++ e3L e)→w.grownBy w' v.ownBlock→((Value.slice ad' (n+1) cap').ownBlock=v.ownBlock ∨ (Value.slice ad' (n+1) cap').ownBlock=some w.heap.size)→wpList Tryz.prog ops Q rest (a.put o.dst (.slice ad' (n+1) cap')) w') :
  wpList Tryz.prog ops Q (o :: rest) a w:=by
 obtain ⟨i0,hi0,hz0,hz1,hz2⟩:=info_parts Tryz.infoMEv
 refine wpList_append_own_at w hgd s x 56 ho base 77 i0 _ 3 24 Tryz.underlying56 hi0 hz0 hz1 hz2 rfl (by decide) v n xs hs hown ad 1 c (e3L e) hx rfl hu (e3_one e) (by unfold maxLen; omega) (by omega) hb ?_
 intro v' w' h2 h3 _ h5
 obtain ⟨ad',cap',rfl⟩:∃ ad' cap',v'=.slice ad' (n+1) cap':=by
  rcases h2.2 with ⟨e,h0⟩|⟨g,cap,cur,e,-⟩
  ·exact ⟨none,0,by rw [e,h0]⟩
  ·exact ⟨_,_,e⟩
 exact h ad' cap' w' h2 h3 h5
theorem own_slice {w:World} {base size n:Nat} {t:TypeId} {v:Value} {xs:List Value} (h:w.ownsRow base t size v n xs):∃ av cv,v=.slice av n cv:=by
 rcases h.2 with ⟨e,h0⟩|⟨g,cp,cur,e,-⟩
 ·exact ⟨none,0,by rw [e,h0]⟩
 ·exact ⟨_,_,e⟩
section
variable {b0:Nat} {w w':World} {C C':Nat→Nat} {Y:YB} {K:RB} {aw:Option Addr} {cap n i k:Nat} {g:Nat→Bool} {E:Nat→Nat×St} {F:List E3}
theorem rnote_any (h:NT b0 w C Y K aw cap n i g E F) (hi:i<n) (hb:b0≤w.heap.size) :
  Calls Tryz.prog 91 #[.pointer (some ⟨Y.xb,0,none⟩),.int .i64 (i:Int)] w fun e w'=>e=.returned (.tuple #[])∧NTo b0 w w' C Y K aw cap n i (noteG g (fun d=>(E d).2.ph) 6) E (noteL F i g (fun d=>(E d).2.ph) 6):=by
 obtain ⟨c1,-,-⟩:=h.cells
 have cn:=h.ns
 have H:=hid h
 obtain ⟨p,HP⟩:∃ p:Nat→Nat,Hid ((fun d=>(E d).2.ph)=p):=⟨_,rfl⟩
 rw [HP.out]
 clear h
 go_enter Tryz.func91,Tryz.ntmps91
 go_wp2_with fail
 go_loopw [5] (fun d wr=>∃ k:Nat,k≤6∧d=.int .i64 (k:Int)∧NTo b0 w wr C Y K aw cap n i (noteG g p k) E (noteL F i g p k)) (fun d _=>6 - (intOf d).toNat)
 case atStart=>exact ⟨0,Nat.zero_le _,rfl,C,Y.ev,by rw [noteG_zero]; exact H.out,Kept.refl _ _,fun _ _=>rfl⟩
 case round =>
  obtain ⟨k,hk,rfl,C1,v1,hN,hkk,hC⟩:=hrel
  rename_i wr
  have HN:=hid hN
  have HKK:=hid hkk
  have HC:=hid hC
  have d0:=hN.nd
  have hbr:Hid (b0≤wr.heap.size):=Nat.le_trans hb hkk.size
  clear hkk hC
  by_cases hlt:k<6
  ·obtain ⟨cs,e1⟩:=hN.js
   have e0:=hN.st
   have e2:=hN.ph k hlt
   have d3:=hN.dd
   have g1:=hN.drow.at_ hlt
   have g2:=hN.drow.fz k
   rw [noteG_at] at g1
   have HPK:Hid ((E k).2.ph=p k):=by rw [← HP.out]; rfl
   rw [HPK.out] at e2
   obtain ⟨b,HB⟩:∃ b,Hid (finB (p k)=b):=⟨_,rfl⟩
   have HF:=hid (fun w=>rfinal_is (p k) b w HB.out)
   obtain ⟨q,HQ⟩:∃ q,Hid (g k=q):=⟨_,rfl⟩
   rw [HQ.out] at g1
   clear hN
   by_cases hskip:q=true ∨ b=false
   ·have HX:Hid (NTo b0 w wr C Y K aw cap n i (noteG g p (k+1)) E (noteL F i g p (k+1))):=by
     have a1:noteG g p (k+1)=noteG g p k:=noteG_skip (by rw [HQ.out,HB.out]; exact hskip)
     have a2:noteL F i g p (k+1)=noteL F i g p k:=by
      rw [noteL,if_neg]
      rintro ⟨h1,h2,-⟩
      rw [HQ.out] at h1; rw [HB.out] at h2
      rcases hskip with e|e
      ·rw [h1] at e; cases e
      ·rw [h2] at e; cases e
     show NTo _ _ _ _ _ _ _ _ _ _ _ _ _
     rw [a1,a2]
     exact ⟨C1,v1,HN.out,HKK.out,HC.out⟩
    clear HN
    go_wp2_with fail
    refine (HF.out _).mono ?_
    rintro e w1 ⟨rfl,rfl⟩
    rcases hskip with rfl|rfl
    ·go_wp2_with fail
     go_roundw
     case rel=>exact ⟨k+1,by omega,by go_num,HX.out⟩
     case measure=>simp [intOf]; omega
    ·cases q
     ·go_wp2_with fail
      go_roundw
      case rel=>exact ⟨k+1,by omega,by go_num,HX.out⟩
      case measure=>simp [intOf]; omega
     ·go_wp2_with fail
      go_roundw
      case rel=>exact ⟨k+1,by omega,by go_num,HX.out⟩
      case measure=>simp [intOf]; omega
   ·obtain rfl:q=false:=by cases q; rfl; exact (hskip (.inl rfl)).elim
    obtain rfl:b=true:=by cases b; exact (hskip (.inr rfl)).elim; rfl
    clear hskip
    obtain ⟨W,HW⟩:∃ W,Hid (wr.setCell ⟨K.dn,k,none⟩ (.bool true)=W):=⟨_,rfl⟩
    have HM:Hid (NT b0 W C1 { Y with ev:=v1 } K aw cap n i (noteG g p (k+1)) E (noteL F i g p k)):=by
     rw [← HW.out]; show NT _ _ _ _ _ _ _ _ _ _ _ _; rw [noteG_mark HB.out]; exact HN.out.mark hlt
    have HKW:Hid (Kept (InN C i) w W):=by
     rw [← HW.out]
     exact HKK.out.setCell (show InN C i K.dn from .inr (.inr (by have e:=HN.out.c9; rw [← HC.out K.dn (H.out.lt _ (by have:=H.out.c9; have:=H.out.i7; omega))]; exact e))) _
    have hW:=HW.out
    obtain ⟨-,x4,f4⟩:=HM.out.cells
    obtain ⟨av,cv,hv⟩:=own_slice HM.out.evs
    simp only at hv x4
    rw [hv] at x4
    have HV:=hid hv
    obtain ⟨fl,HL⟩:∃ fl,Hid ((noteL F i g p k).length=fl):=⟨_,rfl⟩
    have HLE:Hid (fl≤500):=by rw [← HL.out]; exact HM.out.le
    rw [HL.out] at x4
    by_cases hfl:fl<500
    ·have HE2:Hid (noteL F i g p (k+1)=noteL F i g p k ++ [⟨i,k,p k⟩]):=by
      show noteL _ _ _ _ _=_
      rw [noteL,if_pos ⟨HQ.out,HB.out,by rw [HL.out]; exact hfl⟩]
     obtain ⟨W2,HW2⟩:∃ W2,Hid (W.alloc (.cells #[.int .i64 (i:Int),.int .i64 (k:Int),.int .i64 ((p k:Nat):Int)] 77)=W2):=⟨_,rfl⟩
     have hW2:=HW2.out
     have HB2:Hid (Below W.heap.size W W2):=by rw [← HW2.out]; exact (Below.refl _ _).alloc (Nat.le_refl _) _
     have HLc:Hid (∀ j u,(e3L ⟨i,k,p k⟩)[j]? = some u→W2.cell? ((⟨W.heap.size,0,none⟩:Addr).add j)=some u):=by rw [← HW2.out]; exact lit_cellsQ W 77 (e3L ⟨i,k,p k⟩)
     have HM2:=hid (HM.out.later HB2.out)
     have HO:Hid (W2.ownsRow b0 77 3 (.slice av fl cv) fl (evCells (noteL F i g p k))):=by
      have:=HM2.out.evs
      simp only at this
      rw [HV.out,HL.out] at this; exact this
     have hb2:b0≤W2.heap.size:=Nat.le_trans hb (Nat.le_trans HKW.out.size HB2.out.size)
     have HX:Hid (∀ ad' cap' w',w'.ownsRow b0 77 3 (.slice ad' (fl+1) cap') (fl+1) (evCells (noteL F i g p k) ++ e3L ⟨i,k,p k⟩)→W2.grownBy w' (Value.slice av fl cv).ownBlock→((Value.slice ad' (fl+1) cap').ownBlock=(Value.slice av fl cv).ownBlock ∨ (Value.slice ad' (fl+1) cap').ownBlock=some W2.heap.size)→w'.cell? ⟨Y.xb,4,none⟩=some (.slice av fl cv)∧w'.frozen? ⟨Y.xb,4,none⟩=false∧NTo b0 w (w'.setCell ⟨Y.xb,4,none⟩ (.slice ad' (fl+1) cap')) C Y K aw cap n i (noteG g p (k+1)) E (noteL F i g p (k+1))):=by
      intro ad' cap' w' h1 h2 h3
      have hv2:=HV.out
      rw [HL.out] at hv2
      have q1:=(grown_kept h2).row HM2.out.row (fun e=>by
       have h9:=HM2.out.ce _ (by simp only; rw [hv2]; exact e)
       have h8:=HM2.out.cx
       exact absurd (h9.symm.trans h8) (by decide))
      refine ⟨by rw [cell_of_row _ _ _ _ _ _ q1]; simp [rwC,hv2],frozen_of_row _ _ _ _ _ q1,?_⟩
      refine NTo.step (C1:=C1) (v1:=v1) (HKW.out.trans (Kept.of_below HB2.out)) HC.out ?_
      rw [HE2.out]
      exact HM2.out.push (by rw [HL.out]; exact h1) (by simp only; rw [hv2]; exact h2) (by simp only; rw [hv2]; exact h3) (by rw [HL.out]; exact hfl)
     clear HN HM HM2
     go_wp2_with fail
     refine (HF.out _).mono ?_
     rintro e w1 ⟨rfl,rfl⟩
     go_wp2_with (at_builtin; refine wpList_append_mev rfl _ _ rfl b0 fl (.slice av fl cv) ⟨W.heap.size,0,none⟩ 1 _ ⟨i,k,p k⟩ rfl rfl HO.out HLc.out (by omega) hb2 ?_; intro ad' cap' w' h1 h2 h3; obtain ⟨y2,z2,ho2⟩:=HX.out ad' cap' w' h1 h2 h3; have HZ:=hid ho2; clear h1 h2 h3 ho2)
     go_roundw
     case rel=>exact ⟨k+1,by omega,by go_num,HZ.out⟩
     case measure=>simp [intOf]; omega
    ·have HX:Hid (NTo b0 w W C Y K aw cap n i (noteG g p (k+1)) E (noteL F i g p (k+1))):=by
      have a2:noteL F i g p (k+1)=noteL F i g p k:=by rw [noteL,if_neg (by rw [HL.out]; omega)]
      show NTo _ _ _ _ _ _ _ _ _ _ _ _ _
      rw [a2]
      exact ⟨C1,v1,HM.out,HKW.out,HC.out⟩
     obtain rfl:fl=500:=by have:=HLE.out; omega
     clear HN HM
     go_wp2_with fail
     refine (HF.out _).mono ?_
     rintro e w1 ⟨rfl,rfl⟩
     go_wp2_with fail
     go_roundw
     case rel=>exact ⟨k+1,by omega,by go_num,HX.out⟩
     case measure=>simp [intOf]; omega
  ·obtain rfl:k=6:=by omega
   clear hN
   go_wp2_with fail
   go_end0
   exact ⟨rfl,C1,v1,HN.out,HKK.out,HC.out⟩
end
theorem fin_stays {a b:Nat} (h:mayN a b) (hf:finB a=true):b=a:=by
 unfold mayN at h
 unfold finB at hf
 simp at hf
 omega
theorem oHN_off {n m:Nat} {N:PN} {f:F9} (h:NI n N m) (hu:N.l≠-2) (hf:FI n f) (hm:m<4000000000) (hc:(oHN N f).c=6):(oHN N f).l=-2:=by
 have hov:=h.up hu
 have hd:f.d.toNat<6:=by have:=hf.ok.2.2.1; omega
 have ha:f.a.toNat≤1048576:=by have:=hf.ok.2.2.2.2.1; omega
 have hp:f.ph.toNat≤5:=by have:=hf.ok.2.2.2.2.2.1; omega
 have hg:=hear_good (stN N f.d.toNat) (N.R f.d.toNat) f.k.toNat f.a.toNat f.ph.toNat (h.gd _ hd) ha hp
 have hw:Well N.B false N.l m:=⟨h.gd,h.nm,fun _=>hu⟩
 have ho2:pOut (dealL N.B.data.toList) false N.B N.l f.d.toNat (gHN N f).st.ph (gHN N f).st.pr (gHN N f).st.at_=oHN N f:=by rw [← hov]; rfl
 obtain ⟨-,-,q3⟩:=pOut_more (by have:=h.sz; omega) hw hm hd hg.1 h.l0 h.l1 ho2
 rcases q3 with ⟨c,-⟩|⟨-,-,hl⟩
 ·rw [hc] at c; cases c
 ·exact hl
section
variable {w0 w w1 w':World} {C C':Nat→Nat} {K:RB} {Y:YB} {aw:Option Addr} {i n cap m m':Nat} {zs:List Int} {N:PN} {V V':PX}
theorem RW.both {S:Nat→Prop} {N:PN} {K:RB} {ev:Value} {E:List E3} (h:RW w0 w C Y aw cap zs V m) (k:Kept S w w') (hi:i<zs.length) (hS:∀ x,S x→C x / 100=i ∨ C x=1001 ∨ C x=1006) (hC:∀ x,x<w.heap.size→C' x=C x) (hl:∀ x,w.heap.size≤x→C' x<2000→x<w'.heap.size) (hr:w'.heap[Y.xb]? = some (.cells (rwC { Y with ev:=ev } aw zs.length cap).toArray 58 (0,0))) (he:w'.ownsRow w0.heap.size 77 3 ev E.length (evCells E)) (ce:∀ g,ev.ownBlock=some g→C' g=1006)
  (hN:RN w' C' K i zs.length cap aw N) (hK:K.nd=(Y.K i).nd) (hm:m≤m') (hI:XI zs { setNd V i N with evs:=E } m') :
  RW w0 w' C' { Y with ev:=ev,K:=fun e=>if e=i then K else Y.K e } aw cap zs { setNd V i N with evs:=E } m':=by
 have n7:=h.n7.2
 have hs0:=h.bel.size
 have hlow:∀ x,S x→w0.heap.size≤x:=fun x hx=>h.low x (by have:=hS x hx; omega)
 have nS:∀ x,C x / 100≠i→C x≠1001→C x≠1006→¬ S x:=fun x h1 h2 h3 hs=>by have:=hS x hs; omega
 obtain ⟨L,b1,b2,b3⟩:=h.brk
 have cx:=h.cx; have cn:=h.cn
 have o:∀ {x c:Nat},C x=c→c<2000→C' x=c:=fun {x c} e hc=>(hC x (h.lt x (by omega))).trans e
 refine ⟨k.below h.bel.size hlow h.bel,hr,h.ws,fun e he=>?_,fun e he=>?_,⟨L,own_kept b1 k (fun g hg=>nS g (by have:=h.cb g hg; omega) (by have:=h.cb g hg; omega) (by have:=h.cb g hg; omega)),b2,by omega⟩,own_kept h.fly k (fun g hg=>nS g (by have:=h.cf g hg; omega) (by have:=h.cf g hg; omega) (by have:=h.cf g hg; omega)),he,o h.cx (by omega),o h.cn (by omega),fun g hg=>o (h.cb g hg) (by omega),fun g hg=>o (h.cf g hg) (by omega),ce,fun x hx=>?_,fun x hx=>?_,hI⟩
 ·have:=cell_kept (h.ns e he) k (nS Y.nb (by omega) (by omega) (by omega))
  rw [this]
  by_cases g:e=i
  ·subst g; simp [hK]
  ·simp [g]
 ·by_cases g:e=i
  ·subst g
   simpa [setNd] using hN
  ·have hcol:=(h.nds e he).col (C':=C') hC
   have:=hcol.kept (S:=fun x=>S x∧x<w.heap.size) (w':=w') ⟨k.os,k.tape,k.output,k.size,fun y hy hn=>k.block y hy (fun hs=>hn ⟨hs,hy⟩)⟩ (fun x hx hs=>nS x (by rw [← hC x hs.2]; omega) (by rw [← hC x hs.2]; omega) (by rw [← hC x hs.2]; omega) hs.1)
   simpa [setNd,g] using this
 ·rcases Nat.lt_or_ge x w.heap.size with q|q
  ·exact Nat.lt_of_lt_of_le q k.size
  ·exact hl x q hx
 ·rcases Nat.lt_or_ge x w.heap.size with q|q
  ·exact h.low x (by rw [← hC x q]; exact hx)
  ·omega
theorem RN.heard {S:Nat→Prop} {B:ByteArray} {l:Int} {ov:Bool} (h:RN w C K i n cap aw N) (hu:upN N=true) (hl:l≠-2) (i7:i<7) (k:Kept S w w') (hS:∀ x,S x→C x=1001 ∨ C x=1006 ∨ C x=100 * i+3 ∨ C x=100 * i+4 ∨ C x=100 * i+5 ∨ C x=100 * i+7 ∨ C x=100 * i+9) (hC:∀ x,x<w.heap.size→C' x=C x) (hj:RK w' K.m K.gn K.gs K.r (dealL B.data.toList) ov B l) (hd:VR w' K.dn (fun d=>finB (dealL B.data.toList d).2.ph)) :
  RN w' C' K i n cap aw { N with B:=B,l:=l,over:=ov }:=by
 have e1:=h.cn; have e2:=h.cr; have e3:=h.cl; have e4:=h.cd
 obtain ⟨c1,c2,c3,c4,c5⟩:=h.cu hu
 obtain ⟨u1,u2⟩:=h.up hu
 obtain ⟨t1,t2,t3,t4⟩:=u1.lts
 have no:∀ x,(C x≠1001∧C x≠1006∧C x≠100 * i+3∧C x≠100 * i+4∧C x≠100 * i+5∧C x≠100 * i+7∧C x≠100 * i+9)→¬ S x:=fun x q hs=>by have:=hS x hs; omega
 have hru:upN { N with B:=B,l:=l,over:=ov }=upN N:=by rw [hu]; unfold upN; simpa using hl
 have hrc:rndC K { N with B:=B,l:=l,over:=ov }=rndC K N:=by unfold rndC rsV; rw [hru]
 refine ⟨by rw [hrc]; exact k.row h.row (no _ (by omega)),hj.rp,fun _=>⟨hj,u2.kept k (no _ (by omega)) (no _ (by omega))⟩,k.row h.lrow (no _ (by omega)),hd,fun d hd x hx=>?_,(hC _ (row_ltJ h.row)).trans e1,(hC _ t4).trans e2,(hC _ (row_ltJ h.lrow)).trans e3,(hC _ (row_ltJ h.drow)).trans e4,fun _=>⟨(hC _ (row_ltJ u2.row)).trans c1,(hC _ t1).trans c2,(hC _ t2).trans c3,(hC _ t3).trans c4,(hC _ (row_ltJ u2.refs)).trans c5⟩,fun d hd x hx=>?_⟩
 ·obtain ⟨L,r1,r2⟩:=h.lds d hd x hx
  obtain ⟨b1,b2⟩:=h.ce d hd x hx
  exact ⟨L,r1,r2.kept k (no _ (by omega)) (fun g hg=>no g (by have:=b2 g hg; omega))⟩
 ·obtain ⟨L,r1,r2⟩:=h.lds d hd x hx
  obtain ⟨b1,b2⟩:=h.ce d hd x hx
  exact ⟨(hC _ (row_ltJ r2.row)).trans b1,fun g hg=>(hC _ ((r2.own.lt g hg).2)).trans (b2 g hg)⟩
theorem RW.nt {E:Nat→Nat×St} {ov:Bool} {B:ByteArray} {l:Int} (h:RW w0 w C Y aw cap zs V m) (hi:i<zs.length) (hu:upN (V.nd i)=true) (k:Kept (In4 (Y.K i).m (Y.K i).gn (Y.K i).gs (Y.K i).r) w w') (hj:RK w' (Y.K i).m (Y.K i).gn (Y.K i).gs (Y.K i).r E ov B l) :
  NT w0.heap.size w' C Y (Y.K i) aw cap zs.length i (fun d=>finB (stN (V.nd i) d).ph) E V.evs:=by
 have n7:=h.n7.2
 have hN:=h.nds i hi
 have e1:=hN.cn; have e2:=hN.cr; have e3:=hN.cl; have e4:=hN.cd; have cx:=h.cx; have cn:=h.cn
 obtain ⟨c1,c2,c3,c4,c5⟩:=hN.cu hu
 obtain ⟨-,u2⟩:=hN.up hu
 obtain ⟨d0,-,-,d3⟩:=hN.cells
 unfold rsV at d0
 rw [hu,if_pos rfl] at d0
 obtain ⟨-,s1,-⟩:=u2.cells
 obtain ⟨cnn,cs,-,-,j2,-⟩:=hj.cells
 have no:∀ x,C x≠100 * i+3→C x≠100 * i+4→C x≠100 * i+5→C x≠100 * i+7→¬ In4 (Y.K i).m (Y.K i).gn (Y.K i).gs (Y.K i).r x:=fun x h1 h2 h3 h4 hx=>by
  rcases hx with rfl|rfl|rfl|rfl <;> omega
 exact ⟨k.row h.row (no _ (by omega) (by omega) (by omega) (by omega)),cell_kept (h.ns i hi) k (no Y.nb (by omega) (by omega) (by omega) (by omega)),cell_kept d0 k (no (Y.K i).nd (by omega) (by omega) (by omega) (by omega)),cell_kept d3 k (no (Y.K i).nd (by omega) (by omega) (by omega) (by omega)),cell_kept s1 k (no (Y.K i).t (by omega) (by omega) (by omega) (by omega)),⟨cs,j2⟩,fun d hd=>(hj.st hd).1,k.row hN.drow (no _ (by omega) (by omega) (by omega) (by omega)),own_kept h.evs k (fun g hg=>no g (by have:=h.ce g hg; omega) (by have:=h.ce g hg; omega) (by have:=h.ce g hg; omega) (by have:=h.ce g hg; omega)),h.inv.ev,by omega,cx,cn,e1,c1,c2,c4,e4,h.ce,fun x hx=>Nat.lt_of_lt_of_le (h.lt x hx) k.size⟩
def ROutF (w0 w w':World) (C:Nat→Nat) (Y:YB) (aw:Option Addr) (cap:Nat) (zs:List Int) (V':PX) (m':Nat) (v:Value) (L:List F9):Prop :=
 ∃ C' Y',RW w0 w' C' Y' aw cap zs V' m'∧rkey Y'=rkey Y∧Kept (OwnX C) w w'∧(∀ x,x<w.heap.size→C' x=C x)∧FrF w' C' w.heap.size v L
theorem RW.heardOut {B:ByteArray} {l:Int} {ov:Bool} {E:List E3} {gg:Nat→Bool} (h:RW w0 w C Y aw cap zs V m) (hi:i<zs.length) (hu:upN (V.nd i)=true) (hl:l≠-2) (k1:Kept (In4 (Y.K i).m (Y.K i).gn (Y.K i).gs (Y.K i).r) w w1) (hj:RK w1 (Y.K i).m (Y.K i).gn (Y.K i).gs (Y.K i).r (dealL B.data.toList) ov B l) (hn:NTo w0.heap.size w1 w' C Y (Y.K i) aw cap zs.length i gg (dealL B.data.toList) E) (hg:∀ d,d<6→gg d=finB (dealL B.data.toList d).2.ph) (hm:m≤m') (hI:XI zs { setNd V i { V.nd i with B:=B,l:=l,over:=ov } with evs:=E } m') :
  ∃ C' Y',RW w0 w' C' Y' aw cap zs { setNd V i { V.nd i with B:=B,l:=l,over:=ov } with evs:=E } m'∧rkey Y'=rkey Y∧Kept (OwnX C) w w'∧(∀ x,x<w1.heap.size→C' x=C x)∧Kept (OwnX C) w1 w':=by
 have n7:=h.n7.2
 obtain ⟨C',v,t,k2,hC⟩:=hn
 have hN:=h.nds i hi
 have e1:=hN.cn; have e2:=hN.cr; have e3:=hN.cl; have e4:=hN.cd
 obtain ⟨c1,c2,c3,c4,c5⟩:=hN.cu hu
 have hs1:=k1.size
 have hCw:∀ x,x<w.heap.size→C' x=C x:=fun x hx=>hC x (by omega)
 have ci4:∀ x,In4 (Y.K i).m (Y.K i).gn (Y.K i).gs (Y.K i).r x→C x=100 * i+3 ∨ C x=100 * i+4 ∨ C x=100 * i+5 ∨ C x=100 * i+7:=fun x hx=>by
  rcases hx with rfl|rfl|rfl|rfl <;> omega
 have nN:∀ x,(C x=100 * i+3 ∨ C x=100 * i+4 ∨ C x=100 * i+5 ∨ C x=100 * i+7)→¬ InN C i x:=fun x q hx=>by
  rcases hx with g|g|g <;> omega
 have k:Kept (fun x=>C x=1001 ∨ C x=1006 ∨ C x=100 * i+3 ∨ C x=100 * i+4 ∨ C x=100 * i+5 ∨ C x=100 * i+7 ∨ C x=100 * i+9) w w' :=
  (k1.mono (fun x hx=>by have:=ci4 x hx; omega)).trans (k2.mono (fun x hx=>by rcases hx with g|g|g <;> omega))
 have hj2:=hj.kept k2 (nN _ (.inl c2)) (nN _ (.inr (.inl c3))) (nN _ (.inr (.inr (.inl c4)))) (nN _ (.inr (.inr (.inr e2))))
 have hd:VR w' (Y.K i).dn (fun d=>finB (dealL B.data.toList d).2.ph):=by
  have:=t.drow
  unfold VR at this ⊢
  rw [this]
  simp only [hg 0 (by omega),hg 1 (by omega),hg 2 (by omega),hg 3 (by omega),hg 4 (by omega),hg 5 (by omega)]
 have hRN:=hN.heard (C':=C') hu hl (by omega) k (fun x hx=>hx) hCw hj2 hd
 refine ⟨C',_,h.both (ev:=v) (E:=E) k hi (fun x hx=>by omega) hCw (fun x hx hc=>t.lt x hc) t.row t.evs t.ce hRN rfl hm hI,rkey_K rfl,k.mono (fun x hx=>by show C x<2000; omega),hC,k2.mono (fun x hx=>by show C x<2000; rcases hx with g|g|g <;> omega)⟩
end
theorem own_lower {w:World} {b b':Nat} {e:TypeId} {size n:Nat} {v:Value} {xs:List Value} (h:w.ownsRow b e size v n xs) (hb:b'≤b):w.ownsRow b' e size v n xs:=by
 refine ⟨h.1,?_⟩
 rcases h.2 with hn|⟨g,cap,cur,rfl,hb',rest⟩
 ·exact .inl hn
 ·exact .inr ⟨g,cap,cur,rfl,Nat.le_trans hb hb',rest⟩
theorem fr_take {w:World} {g o cap c k:Nat} {L:List F9} (h:IsFr w (.slice (some ⟨g,o,none⟩) L.length cap) L) (hk:k≤L.length):IsFr w (.slice (some ⟨g,o,none⟩) k c) (L.take k):=by
 have hl:(L.take k).length=k:=by rw [List.length_take]; omega
 obtain ⟨ad,cp,e,hf⟩:=h
 injection e with e1 e2 e3
 subst e1
 refine ⟨_,c,by rw [hl],fun i hi=>?_⟩
 rw [hl] at hi
 obtain ⟨b,off,e4,hc⟩:=hf i (by omega)
 refine ⟨b,off,e4,fun j hj=>?_⟩
 rw [hc j hj,List.getElem_take]
theorem fr_drop {w:World} {g o o2 cap c k:Nat} {L:List F9} (h:IsFr w (.slice (some ⟨g,o,none⟩) L.length cap) L) (hk:k≤L.length) (ho:k<L.length→o2=o+k * 9):IsFr w (.slice (some ⟨g,o2,none⟩) (L.length - k) c) (L.drop k):=by
 have hl:(L.drop k).length=L.length - k:=by rw [List.length_drop]
 obtain ⟨ad,cp,e,hf⟩:=h
 injection e with e1 e2 e3
 subst e1
 refine ⟨_,c,by rw [hl],fun i hi=>?_⟩
 rw [hl] at hi
 obtain ⟨b,off,e4,hc⟩:=hf (k+i) (by omega)
 have e5:=Option.some.inj e4
 injection e5 with e6 e7
 subst e6 e7
 refine ⟨g,o2,rfl,fun j hj=>?_⟩
 have:=hc j hj
 rw [ho (by omega),List.getElem_drop,← this]
 congr 2
 omega
section
variable {w0 w w':World} {C C':Nat→Nat} {Y:YB} {aw:Option Addr} {cap m m':Nat} {zs:List Int} {V V':PX}
theorem rtake_ok (k:Nat) (F:F9) (h:RW w0 w C Y aw cap zs V m) (hk:k<V.fly.length) (hF:V.fly[k]'hk=F) (hm:m≤100000000) :
  Calls Tryz.prog 92 #[.pointer (some ⟨Y.xb,0,none⟩),.int .i64 (k:Int)] w fun e w'=>e=.returned (.tuple #[frV F.f F.t F.d F.k F.a F.y F.ph F.pr F.pa,.bool true])∧ROut w0 w w' C Y aw cap zs (takeX V k) m:=by
 obtain ⟨g,cp,cur,hv,hbg,hrow,hnc,hcm,hcs,htk⟩:∃ g cp,∃ cur:Array Value,Y.fv=.slice (some ⟨g,0,none⟩) V.fly.length cp∧w0.heap.size≤g∧w.heap[g]? = some (.cells cur 125 (0,0))∧V.fly.length≤cp∧cp≤maxLen∧cur.size=cp * 9∧cur.toList.take (V.fly.length * 9)=frCells V.fly:=by
  rcases h.fly.2 with ⟨-,h0⟩|h1
  ·omega
  ·exact h1
 have HFr:=hid (IsFr.owned h.fly)
 rw [hv] at HFr
 have hcl:∀ j,j<9→w.cell? ⟨g,k * 9+j,none⟩=(f9L F)[j]?:=fun j hj=>by
  rw [← hF,cell_of_row _ _ _ _ _ _ hrow,← frCells_get V.fly k j hk hj,← htk,List.getElem?_take_of_lt (by omega),Array.getElem?_toList]
 obtain ⟨ff,ft,fd,fk,fa,fy,fh,fp,fq⟩:=F
 obtain ⟨W1,HW1⟩:∃ W1,Hid (w.alloc (.cells #[.int .i64 0,.int .i64 0,.int .i64 0,.int .i64 0,.int .i64 0,.bool false,.int .i64 0,.int .i64 0,.int .i64 0] 125)=W1):=⟨_,rfl⟩
 have HB1:Hid (Below w.heap.size w W1):=by rw [← HW1.out]; exact (Below.refl _ _).alloc (Nat.le_refl _) _
 have HR1:Hid (W1.heap[w.heap.size]? = some (.cells #[.int .i64 0,.int .i64 0,.int .i64 0,.int .i64 0,.int .i64 0,.bool false,.int .i64 0,.int .i64 0,.int .i64 0] 125 (0,0))):=by rw [← HW1.out]; exact heap_alloc_new w _
 have hs1:W1.heap.size=w.heap.size+1:=by rw [← HW1.out]; simp
 obtain ⟨W2,HW2⟩:∃ W2,Hid (W1.alloc (.cells #[.int .i64 ff,.int .i64 ft,.int .i64 fd,.int .i64 fk,.int .i64 fa,.bool fy,.int .i64 fh,.int .i64 fp,.int .i64 fq] 125)=W2):=⟨_,rfl⟩
 have HB2:Hid (Below w.heap.size w W2):=by rw [← HW2.out]; exact HB1.out.alloc HB1.out.size _
 have HR2:Hid (W2.heap[w.heap.size]? = some (.cells #[.int .i64 0,.int .i64 0,.int .i64 0,.int .i64 0,.int .i64 0,.bool false,.int .i64 0,.int .i64 0,.int .i64 0] 125 (0,0))):=by rw [← HW2.out]; exact (Below.heap_alloc W1 _ _ (row_ltJ HR1.out)).trans HR1.out
 have HR3:Hid (W2.heap[w.heap.size+1]? = some (.cells #[.int .i64 ff,.int .i64 ft,.int .i64 fd,.int .i64 fk,.int .i64 fa,.bool fy,.int .i64 fh,.int .i64 fp,.int .i64 fq] 125 (0,0))):=by rw [← HW2.out,← hs1]; exact heap_alloc_new W1 _
 have H:=hid h
 have HWD:=hid (h.later HB2.out)
 obtain ⟨n,hn⟩:∃ n,Hid (V.fly.length=n):=⟨_,rfl⟩
 have hbig:V.fly.length≤1000000000000:=by have:=h.inv.fl; omega
 have c3:=(h.cells).2.2.2.1
 rw [hv] at c3
 have c3W1:=cell_later HB1.out c3
 have c3W2:=cell_later HB2.out c3
 obtain ⟨b0,b1,b2,b3,b4,b5,b6,b7,b8⟩:=nineO (o:=k * 9) hcl
 simp only at b0 b1 b2 b3 b4 b5 b6 b7 b8
 have y0:=cell_later HB1.out b0
 have y1:=cell_later HB1.out b1
 have y2:=cell_later HB1.out b2
 have y3:=cell_later HB1.out b3
 have y4:=cell_later HB1.out b4
 have y5:=cell_later HB1.out b5
 have y6:=cell_later HB1.out b6
 have y7:=cell_later HB1.out b7
 have y8:=cell_later HB1.out b8
 have HT1:=hid (fr_take (c:=cp) (HFr.out.later HB2.out) (Nat.le_of_lt hk))
 obtain ⟨o2,ho2⟩:∃ o2,o2=if cp=k+1 then 0 else (k+1) * 9:=⟨_,rfl⟩
 have HT2:=hid (fr_drop (c:=cp - (k+1)) (o2:=o2) (k:=k+1) HFr.out hk (fun hx=>by rw [ho2,if_neg (by omega)]; omega))
 have hA1:(if cp=k+1 then some (⟨g,0,none⟩:Addr) else some ⟨g,(k+1) * 9,none⟩)=some ⟨g,o2,none⟩:=by rw [ho2]; split <;> rfl
 have HLs:Hid (V.fly.take k ++ V.fly.drop (k+1)=V.fly.eraseIdx k):=(List.eraseIdx_eq_take_drop_succ V.fly k).symm
 have htl:(V.fly.take k).length=k:=by rw [List.length_take]; omega
 have hdl:(V.fly.drop (k+1)).length=V.fly.length - (k+1):=by rw [List.length_drop]
 obtain ⟨LT,HLT⟩:∃ LT,Hid (V.fly.take k=LT):=⟨_,rfl⟩
 obtain ⟨LD,HLD⟩:∃ LD,Hid (V.fly.drop (k+1)=LD):=⟨_,rfl⟩
 rw [HLT.out] at HT1 HLs htl
 rw [HLD.out] at HT2 HLs hdl
 rw [hn.out] at c3 c3W1 c3W2 hk hbig hnc hdl HT2
 have hw1:IntKind.i64.wrap ((k:Int)+1)=(k:Int)+1:=by rw [IntKind.wrap_i64]; omega
 have hb1:(0:Int)≤(k:Int)+1:=by omega
 have hb2:(k:Int)+1≤(n:Int):=by omega
 have hb3:(k:Int)≤(cp:Int):=by omega
 have hb4:((k:Int)+1).toNat=k+1:=by omega
 have hlx:=row_ltJ h.row
 have HBg:=hid (row_ltJ hrow)
 have hW1:=HW1.out
 have hW2:=HW2.out
 have HLtl:=hid htl
 have HLdl:=hid hdl
 have HV:=hid hv
 clear h hv hbg hrow hcm hcs htk hcl hF ho2 b0 b1 b2 b3 b4 b5 b6 b7 b8 htl hdl
 have HX3:Hid (∀ w3,W2.grownBy w3 none→w3.cell? ⟨Y.xb,3,none⟩=some (.slice (some ⟨g,0,none⟩) n cp)∧Below W2.heap.size W2 w3):=by
  intro w3 hg
  have hb:Below W2.heap.size W2 w3:=Below.grown (Below.refl _ _) hg (Nat.le_refl _) (fun j hj=>by cases hj)
  exact ⟨cell_later hb c3W2,hb⟩
 have HX4:Hid (∀ (v3:Value) (w3 w4:World) (ys:List Value),w3.ownsRow W2.heap.size 125 9 v3 k ys→Below W2.heap.size W2 w3→w3.grownBy w4 v3.ownBlock→w4.cell? ⟨Y.xb,3,none⟩=some (.slice (some ⟨g,0,none⟩) n cp)∧w4.frozen? ⟨Y.xb,3,none⟩=false∧Below W2.heap.size W2 w4):=by
  intro v3 w3 w4 ys ho hb hg
  have hb4:Below W2.heap.size W2 w4:=Below.grown hb hg hb.size (fun j hj=>(ho.lt j hj).1)
  exact ⟨cell_later hb4 c3W2,frozen_of_row _ _ _ _ _ ((HWD.out.later hb4).row),hb4⟩
 have HEnd:Hid (∀ (v4:Value) (w4:World),w4.ownsRow W2.heap.size 125 9 v4 (k+(n - (k+1))) (frCells LT ++ frCells LD)→Below W2.heap.size W2 w4→ROut w0 W2 (w4.setCell ⟨Y.xb,3,none⟩ v4) C Y aw cap zs (takeX V k) m):=by
  intro v4 w4 ho hb
  have hel:(V.fly.eraseIdx k).length=k+(n - (k+1)):=by rw [← HLs.out,List.length_append,HLtl.out,HLdl.out]
  refine HWD.out.framed (F:=V.fly.eraseIdx k) (S:=fun _=>False) (Kept.of_below hb) (fun _ x=>x.elim) ?_ ?_ (Nat.le_refl _) H.out.inv.take
  ·rw [hel,← HLs.out,frCells_append]
   exact own_lower ho (Nat.le_trans H.out.bel.size HB2.out.size)
  ·cases hob:v4.ownBlock with
   | none=>exact .inl rfl
   | some g4=>exact .inr (.inr ⟨g4,rfl,(ho.lt g4 hob).1⟩)
 have HRows:Hid (∀ (v4:Value) (w4:World),Below W2.heap.size W2 w4→(w4.setCell ⟨Y.xb,3,none⟩ v4).heap[w.heap.size]? = some (.cells #[.int .i64 0,.int .i64 0,.int .i64 0,.int .i64 0,.int .i64 0,.bool false,.int .i64 0,.int .i64 0,.int .i64 0] 125 (0,0))∧(w4.setCell ⟨Y.xb,3,none⟩ v4).heap[w.heap.size+1]? = some (.cells #[.int .i64 ff,.int .i64 ft,.int .i64 fd,.int .i64 fk,.int .i64 fa,.bool fy,.int .i64 fh,.int .i64 fp,.int .i64 fq] 125 (0,0))):=by
  intro v4 w4 hb
  have hk1:Kept (In1 Y.xb) w4 (w4.setCell ⟨Y.xb,3,none⟩ v4):=(Kept.refl _ w4).set1 3 v4
  exact ⟨hk1.row ((hb.block _ (row_ltJ HR2.out)).trans HR2.out) (fun e=>by have:w.heap.size=Y.xb:=e; omega),hk1.row ((hb.block _ (row_ltJ HR3.out)).trans HR3.out) (fun e=>by have:w.heap.size+1=Y.xb:=e; omega)⟩
 have HNw:Hid (2000≤C w.heap.size):=by
  rcases Nat.lt_or_ge (C w.heap.size) 2000 with q|q
  ·have:=H.out.lt _ q; omega
  ·exact q
 go_enter Tryz.func92,Tryz.ntmps92
 go_wp2_with (first
  | (at_builtin; refine wpList_append_frs rfl _ _ rfl W2.heap.size 0 (.slice none 0 0) (.slice (some ⟨g,0,none⟩) k cp) [] LT rfl rfl (World.ownsRow_nil _ _ _ _) HT1.out (by rw [HLtl.out]; omega) (Nat.le_refl _) ?_; rw [HLtl.out,Nat.zero_add]; intro ad' cap' w3 hown hg _; obtain ⟨c3W3,hb3⟩:=HX3.out w3 hg; have HS3:=hid (And.intro hown hb3); clear hown hg hb3)
  | (at_builtin; refine wpList_append_frs rfl _ _ rfl W2.heap.size k (.slice ad' k cap') (.slice (some ⟨g,o2,none⟩) (n - (k+1)) (cp - (k+1))) ([] ++ frCells LT) LD rfl rfl HS3.out.1 (HT2.out.later (HB2.out.trans (HS3.out.2.mono HB2.out.size))) (by rw [HLdl.out]; omega) HS3.out.2.size ?_; rw [HLdl.out,List.nil_append]; intro ad4 cap4 w4 hown4 hg4 _; obtain ⟨c3W4,z3W4,hb4⟩:=HX4.out _ w3 w4 _ HS3.out.1 HS3.out.2 hg4; have HS4:=hid (HEnd.out _ w4 hown4 hb4); obtain ⟨hz5,hr5⟩:=HRows.out (.slice ad4 (k+(n - (k+1))) cap4) w4 hb4; obtain ⟨W5,HW5⟩:∃ W5,Hid (w4.setCell ⟨Y.xb,3,none⟩ (.slice ad4 (k+(n - (k+1))) cap4)=W5):=⟨_,rfl⟩; rw [HW5.out] at HS4 hz5 hr5; have HZ5:=hid hz5; have HR5:=hid hr5; obtain ⟨z0,z1,z2,z3,z4,z5,z6,z7,z8⟩:=nine (f:=0) (t:=0) (d:=0) (k:=0) (a:=0) (y:=false) (ph:=0) (pr:=0) (pa:=0) HZ5.out; obtain ⟨f0,f1,f2,f3,f4,f5,f6,f7,f8⟩:=frozen9 HZ5.out; obtain ⟨e0,e1,e2,e3,e4,e5,e6,e7,e8⟩:=nine HR5.out; have hW5:=HW5.out; clear hown4 hg4 hb4 hz5 hr5))
 obtain ⟨Yw,HY,HYR,HYK⟩:=stored9 HZ5.out ff ft fd fk fa fy fh fp fq
 rw [HY.out]
 refine bodyPost_ret (results_row2 rfl _ _ w.heap.size 125 _ (0,0) _ rfl (HYR.out) Tryz.underlying125 rfl (by kernel_rfl)) rfl ?_
 refine ⟨rfl,?_⟩
 obtain ⟨C',Y',g1,g2,g3',g4⟩:=HS4.out
 have g3:Kept (OwnX C) w W5:=(Kept.of_below HB2.out).trans g3'
 have hn5:2000≤C' w.heap.size:=by rw [g4 _ (row_ltJ HR2.out)]; exact HNw.out
 exact ⟨C',Y',g1.far HYK.out (fun x hx=>by rw [show x=w.heap.size from hx]; exact hn5) (fun x hx=>by rw [show x=w.heap.size from hx]; exact H.out.bel.size),g2,⟨HYK.out.os.trans g3.os,HYK.out.tape.trans g3.tape,HYK.out.output.trans g3.output,Nat.le_trans g3.size HYK.out.size,fun y hy hs=>(HYK.out.block y (Nat.lt_of_lt_of_le hy g3.size) (fun e=>by have:y=w.heap.size:=e; omega)).trans (g3.block y hy hs)⟩,fun x hx=>g4 x (Nat.lt_of_lt_of_le hx HB2.out.size)⟩
end
section
variable {w0 w w':World} {C C':Nat→Nat} {Y:YB} {aw:Option Addr} {cap m m':Nat} {zs:List Int} {V V':PX}
theorem RW.flyForm (h:RW w0 w C Y aw cap zs V m):∃ a c,Y.fv=.slice a V.fly.length c:=by
 rcases h.fly.2 with ⟨h1,h0⟩|⟨g,cp,cur,h1,-⟩
 ·exact ⟨none,0,by rw [h1,h0]⟩
 ·exact ⟨_,_,h1⟩
theorem rtake_no (s:Int) (h:RW w0 w C Y aw cap zs V m) (hs:¬ (0≤s∧s<V.fly.length)) (hm:m≤100000000) :
  Calls Tryz.prog 92 #[.pointer (some ⟨Y.xb,0,none⟩),.int .i64 s] w fun e w'=>e=.returned (.tuple #[frV 0 0 0 0 0 false 0 0 0,.bool false])∧Below w.heap.size w w':=by
 obtain ⟨a,c,hv⟩:=h.flyForm
 have c3:=(h.cells).2.2.2.1
 rw [hv] at c3
 obtain ⟨W1,HW1⟩:∃ W1,Hid (w.alloc (.cells #[.int .i64 0,.int .i64 0,.int .i64 0,.int .i64 0,.int .i64 0,.bool false,.int .i64 0,.int .i64 0,.int .i64 0] 125)=W1):=⟨_,rfl⟩
 have HB1:Hid (Below w.heap.size w W1):=by rw [← HW1.out]; exact (Below.refl _ _).alloc (Nat.le_refl _) _
 have HR1:Hid (W1.heap[w.heap.size]? = some (.cells #[.int .i64 0,.int .i64 0,.int .i64 0,.int .i64 0,.int .i64 0,.bool false,.int .i64 0,.int .i64 0,.int .i64 0] 125 (0,0))):=by rw [← HW1.out]; exact heap_alloc_new w _
 have c3W1:=cell_later HB1.out c3
 have hbig:V.fly.length≤1000000000000:=by have:=h.inv.fl; omega
 obtain ⟨n,hn⟩:∃ n,Hid (V.fly.length=n):=⟨_,rfl⟩
 rw [hn.out] at c3 c3W1 hs hbig
 have hW1:=HW1.out
 obtain ⟨z0,z1,z2,z3,z4,z5,z6,z7,z8⟩:=nine (f:=0) (t:=0) (d:=0) (k:=0) (a:=0) (y:=false) (ph:=0) (pr:=0) (pa:=0) HR1.out
 obtain ⟨f0,f1,f2,f3,f4,f5,f6,f7,f8⟩:=frozen9 HR1.out
 clear h hv
 by_cases hneg:s<0
 ·go_enter Tryz.func92,Tryz.ntmps92
  go_wp2_with fail
  obtain ⟨Yw,HY,HYR,HYK⟩:=stored9 HR1.out 0 0 0 0 0 false 0 0 0
  rw [HY.out]
  refine bodyPost_ret (results_row2 rfl _ _ w.heap.size 125 _ (0,0) _ rfl (HYR.out) Tryz.underlying125 rfl (by kernel_rfl)) rfl ?_
  exact ⟨rfl,HYK.out.below HB1.out.size (fun y hy=>Nat.le_of_eq (show y=w.heap.size from hy).symm) HB1.out⟩
 ·have hge:(n:Int)≤s:=by omega
  go_enter Tryz.func92,Tryz.ntmps92
  go_wp2_with fail
  obtain ⟨Yw,HY,HYR,HYK⟩:=stored9 HR1.out 0 0 0 0 0 false 0 0 0
  rw [HY.out]
  refine bodyPost_ret (results_row2 rfl _ _ w.heap.size 125 _ (0,0) _ rfl (HYR.out) Tryz.underlying125 rfl (by kernel_rfl)) rfl ?_
  exact ⟨rfl,HYK.out.below HB1.out.size (fun y hy=>Nat.le_of_eq (show y=w.heap.size from hy).symm) HB1.out⟩
theorem ROut.later {w2:World} (h:ROut w0 w w' C Y aw cap zs V' m') (hb:Below w'.heap.size w' w2):ROut w0 w w2 C Y aw cap zs V' m':=by
 obtain ⟨C1,Y1,g1,g2,g3,g4⟩:=h
 exact ROut.step g2 g3 g4 (g1.out hb (Nat.le_refl _))
theorem alloc9 (w:World) (f t d k a:Int) (y:Bool) (ph pr pa:Int):Below w.heap.size w (w.alloc (.cells #[.int .i64 f,.int .i64 t,.int .i64 d,.int .i64 k,.int .i64 a,.bool y,.int .i64 ph,.int .i64 pr,.int .i64 pa] 125)):=(Below.refl _ _).alloc (Nat.le_refl _) _
theorem rdrop_ok (k:Nat) (h:RW w0 w C Y aw cap zs V m) (hk:k<V.fly.length) (hm:m≤100000000) :
  Calls Tryz.prog 28 #[.pointer (some ⟨Y.xb,0,none⟩),.int .i64 (k:Int)] w fun e w'=>e=.returned (.int .i64 0)∧ROut w0 w w' C Y aw cap zs (takeX V k) m:=by
 have H:=hid h
 have HM:=hid hm
 have HK:=hid hk
 clear h hm hk
 go_enter Tryz.func28,Tryz.ntmps28
 go_wp2_with fail
 refine (rtake_ok k _ H.out HK.out rfl HM.out).mono ?_
 rintro e w1 ⟨rfl,h1⟩
 have H1:=hid (h1.later (alloc9 w1 (V.fly[k]'HK.out).f (V.fly[k]'HK.out).t (V.fly[k]'HK.out).d (V.fly[k]'HK.out).k (V.fly[k]'HK.out).a (V.fly[k]'HK.out).y (V.fly[k]'HK.out).ph (V.fly[k]'HK.out).pr (V.fly[k]'HK.out).pa))
 clear h1
 generalize (V.fly[k]'HK.out)=F at H1 ⊢
 obtain ⟨ff,ft,fd,fk,fa,fy,fh,fp,fq⟩:=F
 go_wp2_with fail
 go_ret
 exact ⟨rfl,H1.out⟩
theorem rdrop_no (s:Int) (h:RW w0 w C Y aw cap zs V m) (hs:¬ (0≤s∧s<V.fly.length)) (hm:m≤100000000) :
  Calls Tryz.prog 28 #[.pointer (some ⟨Y.xb,0,none⟩),.int .i64 s] w fun e w'=>e=.returned (.int .i64 4)∧Below w.heap.size w w':=by
 have H:=hid h
 have HM:=hid hm
 have HS:=hid (show ¬ (0≤s∧s<(V.fly.length:Int)) from hs)
 clear h hm hs
 go_enter Tryz.func28,Tryz.ntmps28
 go_wp2_with fail
 refine (rtake_no s H.out HS.out HM.out).mono ?_
 rintro e w1 ⟨rfl,h1⟩
 have H1:=hid (h1.trans ((alloc9 w1 0 0 0 0 0 false 0 0 0).mono h1.size))
 clear h1
 go_wp2_with fail
 go_ret
 exact ⟨rfl,H1.out⟩
end
end Go.Proofs.YtaehdgemkafinaaGreatDoor
