/-
  On the way to SPlaysProof: VT VU UE VZ LA.
-/
import Derived.Test.YtaehdgemkafinaaGreatDoorBw23
import Derived.Test.YtaehdgemkafinaaGreatDoorBw13
import Derived.Great.Frames
set_option maxHeartbeats 8000000
set_option maxRecDepth 100000
namespace Go.Proofs.YtaehdgemkafinaaGreatDoor
open Go.RowKit
section
variable {w0 w w':World} {C C':Nat→Nat} {K:NB} {X:XB} {i m m':Nat} {zs:List Int} {N:PN} {V V':PX} {A:Nat→Addr}
def wakeN (N:PN):PN:={ N with l:=-1,over:=false,R:=fun _=>false }
theorem NI.wake {n:Nat} (h:NI n N m) (hl:N.l=-2):NI n (wakeN N) m :=
 ⟨h.gd,h.nm,h.sz,fun _=>rfl,by show (-2:Int)≤-1; omega,by show (-1:Int)≤_; omega,fun d x hx=>by have:=(h.ld d x hx).1; exact (this hl).elim⟩
theorem WD.wake {w1 w2:World} {s' j' mb':Nat} (h:WD w0 w C X zs V m) (hi:i<zs.length) (hl:(V.nd i).l=-2) (hp:Pl w1 (X.K i).p (X.K i).q (V.nd i).B (-1)) (hk:Kept (In2 (X.K i).p (X.K i).q) w w1) (hj:JR w2 j' (X.K i).p (dealL (V.nd i).B.data.toList) false) (hs:SR w2 s' j' mb' i (fun _=>false) 0) (hb:Below w1.heap.size w1 w2) (hj0:w1.heap.size≤j') (hjm:j'<mb') (hms:mb'<s') :
  ∃ C' X',WD w0 (w2.setCell ⟨(X.K i).nd,0,none⟩ (.pointer (some ⟨s',0,none⟩))) C' X' zs (setNd V i (wakeN (V.nd i))) m∧key X'=key X∧Kept (OwnX C) w (w2.setCell ⟨(X.K i).nd,0,none⟩ (.pointer (some ⟨s',0,none⟩)))∧(∀ x,x<w.heap.size→C' x=C x)∧X'.K i={ X.K i with s:=s',j:=j',mb:=mb' }:=by
 have n7:=h.n7.2
 have hN:=h.nds i hi
 have e1:=hN.cs; have e2:=hN.cj; have e3:=hN.cm; have e4:=hN.cp; have e5:=hN.cq; have e6:=hN.cn
 have hsz:=hk.size
 have hslt:=hs.lts
 obtain ⟨l1,l2,l3,l4,l5⟩:=hN.sp.lts
 have lnd:=row_ltJ hN.row
 have hw0:=h.bel.size
 obtain ⟨C1,hC1⟩:∃ C1,C1=paint (paint (paint C s' (100 * i+2)) j' (100 * i+3)) mb' (100 * i+4):=⟨_,rfl⟩
 have hC:∀ x,x<w.heap.size→C1 x=C x:=fun x hx=>by rw [hC1,paint_ne (by omega),paint_ne (by omega),paint_ne (by omega)]
 have q1:C1 s'=100 * i+2:=by rw [hC1,paint_ne (by omega),paint_ne (by omega),paint_at]
 have q2:C1 j'=100 * i+3:=by rw [hC1,paint_ne (by omega),paint_at]
 have q3:C1 mb'=100 * i+4:=by rw [hC1,paint_at]
 have hbel1:Below w0.heap.size w0 w1:=hk.below hw0 (fun x hx=>by rcases hx with rfl|rfl; exact h.low _ (by omega); exact h.low _ (by omega)) h.bel
 have hsp:=sp_new (w0:=w0) hbel1 hp (h.low _ (by omega)) (h.low _ (by omega)) hj hs hb hj0 hjm hms (by decide) (by decide) hN.sp.jp.sz hN.sp.jp.s6
 have hkk:Kept (In2 (X.K i).p (X.K i).q) w w2:=hk.trans (Kept.of_below hb)
 have hset:Kept (In1 (X.K i).nd) w2 (w2.setCell ⟨(X.K i).nd,0,none⟩ (.pointer (some ⟨s',0,none⟩))):=(Kept.refl _ w2).set1 0 _
 have nnd:∀ x,C1 x≠100 * i+1→¬ In1 (X.K i).nd x:=fun x g hx=>by rw [show x=(X.K i).nd from hx,hC _ lnd] at g; exact g e6
 have hK3:Kept (fun x=>C x / 100=i) w (w2.setCell ⟨(X.K i).nd,0,none⟩ (.pointer (some ⟨s',0,none⟩))):=(hkk.mono hN.in2).setCell (show C (X.K i).nd / 100=i by omega) _
 have hrow:w2.heap[(X.K i).nd]? = some (.cells (ndC (X.K i) (V.nd i)).toArray 152 (0,0)):=hkk.row hN.row (fun e=>by rcases e with e|e; (rw [e] at e6; omega); (rw [e] at e6; omega))
 have hno:∀ d,(V.nd i).ld d=none:=fun d=>by
  cases hd:(V.nd i).ld d with
  | none=>rfl
  | some x=>exact (((h.inv.nd i hi).ld d x hd).1 hl).elim
 have hND:ND w0 (w2.setCell ⟨(X.K i).nd,0,none⟩ (.pointer (some ⟨s',0,none⟩))) C1 { X.K i with s:=s',j:=j',mb:=mb' } i zs (wakeN (V.nd i)) m:=by
  refine ⟨?_,?_,fun d hd x hx=>?_,(hC _ lnd).trans e6,q1,q2,q3,(hC _ l4).trans e4,(hC _ l5).trans e5,fun d hd x hx=>?_,hN.n0⟩
  ·show (w2.setCell ⟨(X.K i).nd,0,none⟩ (.pointer (some ⟨s',0,none⟩))).heap[(X.K i).nd]? = _
   rw [heap_setCell_same w2 (X.K i).nd 0 _ _ _ hrow]; rfl
  ·have:=(hsp.mono (Nat.zero_le m)).far hset (fun x hx=>by rw [show x=_ from hx]; exact hN.n0) (fun x hx=>nnd x (by rcases hx with rfl|rfl|rfl; omega; (rw [hC _ l4]; omega); (rw [hC _ l5]; omega))) (nnd _ (by omega)) (nnd _ (by omega))
   exact this
  ·have hx':(V.nd i).ld d=some x:=hx
   rw [hno d] at hx'; cases hx'
  ·have hx':(V.nd i).ld d=some x:=hx
   rw [hno d] at hx'; cases hx'
 refine ⟨C1,_,h.node hK3 hi (fun x hx=>hx) hC (fun x hx hc=>?_) hND rfl (Nat.le_refl _) (h.inv.node ((h.inv.nd i hi).wake hl) (Nat.le_refl _)),key_K rfl,hK3.mono (fun x hx=>by show C x<2000; omega),hC,?_⟩
 ·rw [show (w2.setCell ⟨(X.K i).nd,0,none⟩ (.pointer (some ⟨s',0,none⟩))).heap.size=w2.heap.size by simp]
  by_cases g1:x=s'
  ·rw [g1]; exact hslt.1
  ·by_cases g2:x=j'
   ·rw [g2]; omega
   ·by_cases g3:x=mb'
    ·rw [g3]; omega
    ·rw [hC1,paint_ne g3,paint_ne g2,paint_ne g1] at hc
     have:=h.lt x hc
     omega
 ·simp
def cWake (n:Nat) (V:PX) (s:Int):Nat:=if 0≤s∧s<n then (if upN (V.nd s.toNat)=true then 8 else 0) else 2
theorem setNd_st {d:Nat}:stN ((setNd V i (wakeN (V.nd i))).nd i) d=stN (V.nd i) d:=by
 unfold setNd
 simp only [if_true]
 rfl
theorem wake_any (s:Int) (c:Nat) (h:WD w0 w C X zs V m) (hE:Held9 w0 A) (hc:cWake zs.length V s=c) :
  Calls Tryz.prog 58 #[.pointer (some ⟨X.xb,0,none⟩),.int .i64 s] w fun e w'=>e=.returned (ev A c)∧WOut w0 w w' C X zs (if c=0 then upX V s.toNat else V) (m+1):=by
 have H:=hid h
 have HE:=hid hE
 have HE1:=hid (h.held hE)
 have n7:=h.n7
 clear h hE
 subst hc
 by_cases hs:0≤s∧s<zs.length
 ·obtain ⟨k,rfl⟩:=Int.eq_ofNat_of_zero_le hs.1
  have hk:k<zs.length:=by omega
  have HK:=hid hk
  obtain ⟨b,HB⟩:∃ b,Hid (((V.nd k).l != -2)=b):=⟨_,rfl⟩
  have HU:Hid (upN (V.nd k)=b):=HB.out
  obtain ⟨c0,c1,c2⟩:=(H.out.nds k hk).way
  cases b with
  | true =>
   have e:cWake zs.length V k=8:=by unfold cWake; rw [if_pos hs,Int.toNat_natCast,HU.out,if_pos rfl]
   rw [e]
   clear e hs hk
   have g7:w.cell? ⟨7,0,none⟩=some (.iface 318 (.pointer (some (A 7)))):=HE1.out.var 7 (by decide)
   go_enter Tryz.func58,Tryz.ntmps58
   go_wp2_with fail
   refine (find_ok k H.out HK.out).mono ?_
   rintro e w1 ⟨rfl,hx⟩
   subst w1
   go_wp2_with fail
   refine (power_b _ _ _ _ true w (H.out.nds k HK.out).sp.jp.pl HB.out).mono ?_
   rintro e w1 ⟨rfl,hx⟩
   subst w1
   go_wp2_with fail
   go_ret
   exact ⟨rfl,H.out.out (Below.refl _ _) (Nat.le_succ _)⟩
  | false =>
   have e:cWake zs.length V k=0:=by unfold cWake; rw [if_pos hs,Int.toNat_natCast,HU.out,if_neg (by decide)]
   rw [e]
   clear e hs hk
   have HL:Hid ((V.nd k).l=-2):=by have:=HB.out; show (V.nd k).l=-2; simpa using this
   have HNS:=hid (H.out.nds k HK.out)
   have HSZ:=hid (H.out.inv.nd k HK.out).sz
   go_enter Tryz.func58,Tryz.ntmps58
   go_wp2_with fail
   refine (find_ok k H.out HK.out).mono ?_
   rintro e w1 ⟨rfl,hx⟩
   subst w1
   go_wp2_with fail
   refine (power_b _ _ _ _ false w HNS.out.sp.jp.pl HB.out).mono ?_
   rintro e w1 ⟨rfl,hx⟩
   subst w1
   go_wp2_with fail
   refine (pon_any _ _ _ _ w HNS.out.sp.jp.pl).mono ?_
   rintro e w1 ⟨rfl,hp,hk1⟩
   have HP:=hid hp
   have HK1:=hid hk1
   obtain ⟨c0',c1',c2'⟩:=(HNS.out.power hk1 hp (by decide) (by decide)).way
   have HE2:=hid (HE.out.later (hk1.below H.out.bel.size (fun x hx=>H.out.low _ (by have:=HNS.out.in2 x hx; have:=HK.out; omega)) H.out.bel))
   clear hp hk1
   go_wp2_with fail
   refine (snew_ok A (k:Int) _ _ _ (-1) w1 HP.out HE2.out.toE (by rw [HSZ.out]; decide) (by rw [HSZ.out]; decide) (by decide) (by omega) (by have:=HK.out; omega)).mono ?_
   rintro e w2 ⟨s',j',mb',rfl,hj,hs2,hb2,hj0,hjm,hms⟩
   obtain ⟨C3,X3,q1,q2,q3,q4,q5⟩:=H.out.wake HK.out HL.out HP.out HK1.out hj hs2 hb2 hj0 hjm hms
   obtain ⟨W3,HW3⟩:∃ W3,Hid (w2.setCell ⟨(X.K k).nd,0,none⟩ (.pointer (some ⟨s',0,none⟩))=W3):=⟨_,rfl⟩
   have hW3:=HW3.out
   have HKW:Hid (Kept (In2 (X.K k).p (X.K k).q) w w2):=HK1.out.trans (Kept.of_below hb2)
   have hrow2:=HKW.out.row HNS.out.row (fun e=>by have e6:=HNS.out.cn; have e4:=HNS.out.cp; have e5:=HNS.out.cq; rcases e with e|e; (rw [e] at e6; omega); (rw [e] at e6; omega))
   have d0:w2.cell? ⟨(X.K k).nd,0,none⟩=some (.pointer (some ⟨(X.K k).s,0,none⟩)):=by rw [cell_of_row _ _ _ _ _ _ hrow2]; rfl
   have z0:=frozen_of_row w2 (X.K k).nd 0 _ _ hrow2
   rw [hW3] at q1 q3
   have HQ:=hid (And.intro q1 (And.intro q2 (And.intro q3 q4)))
   -- the site ahead,as it was
   have HJo:Hid (JR W3 (X.K k).j (X.K k).p (dlN (V.nd k)) (V.nd k).over):=by
    rw [← HW3.out]
    show (w2.setCell _ _).heap[(X.K k).j]? = _
    rw [heap_setCell_other _ _ _ _ (by show (X.K k).j≠(X.K k).nd; intro e; have e6:=HNS.out.cn; have e2:=HNS.out.cj; rw [e] at e2; omega)]
    exact HKW.out.row HNS.out.sp.jp.jr (fun e=>by have e2:=HNS.out.cj; have e4:=HNS.out.cp; have e5:=HNS.out.cq; rcases e with e|e; (rw [e] at e2; omega); (rw [e] at e2; omega))
   have HSo:Hid (SR W3 (X.K k).s (X.K k).j (X.K k).mb k (V.nd k).R m):=by
    have e1:=HNS.out.cs; have e3:=HNS.out.cm; have e4:=HNS.out.cp; have e5:=HNS.out.cq; have e6:=HNS.out.cn
    have hk3:Kept (fun x=>x=(X.K k).nd ∨ In2 (X.K k).p (X.K k).q x) w W3:=by rw [← HW3.out]; exact (HKW.out.mono (fun x hx=>.inr hx)).setCell (.inl rfl) _
    refine HNS.out.sp.sr.kept hk3 (fun e=>?_) (fun e=>?_)
    ·rcases e with e|e|e
     ·rw [e] at e1; omega
     ·rw [e] at e1; omega
     ·rw [e] at e1; omega
    ·rcases e with e|e|e
     ·rw [e] at e3; omega
     ·rw [e] at e3; omega
     ·rw [e] at e3; omega
   clear q1 q2 q3 q4 q5 hj hs2 hb2 hj0 hjm hms hrow2
   go_wp2_with fail
   go_loopw [79] (fun v wr=>∃ q:Nat,q≤6∧v=.int .i64 (q:Int)∧Below W3.heap.size W3 wr) (fun v _=>6 - (intOf v).toNat)
   case atStart=>exact ⟨0,Nat.zero_le _,rfl,Below.refl _ _⟩
   case round =>
    obtain ⟨q,hq,rfl,hb⟩:=hrel
    have HBr:=hid hb
    have Hr:=hid (HQ.out.1.later hb)
    have HJr:=hid (HJo.out.later hb HJo.out.lt)
    have HSr:=hid (HSo.out.later hb)
    clear hb
    by_cases hlt:q<6
    ·obtain ⟨⟨was,t2,t3⟩,HST⟩:∃ x,Hid ((dlN (V.nd k) q).2=x):=⟨_,rfl⟩
     have HS5:Hid (stN ((setNd V k (wakeN (V.nd k))).nd k) q=⟨was,t2,t3⟩):=setNd_st.trans HST.out
     have hph:∀ w,(Instr.field 80 (.agg #[.int .i64 (was:Int),.int .i64 (t2:Int),.int .i64 (t3:Int)]) 0).run Tryz.prog w=.ok (.int .i64 (was:Int)) w:=fun w=>phase_of _ _ _ w
     go_wp2_with fail
     refine (known_ag q was t2 t3 HJr.out HSr.out hlt HST.out).mono ?_
     rintro e w5 ⟨rfl,hb5⟩
     have HB5:=hid (HBr.out.trans (hb5.mono HBr.out.size))
     have HNo:=hid (note_not k q was was t2 t3 (Hr.out.later hb5) HK.out hlt HS5.out (fun h=>h.1 rfl))
     rw [key_xb HQ.out.2.1] at HNo
     clear hb5
     go_wp2_with fail
     refine HNo.out.mono ?_
     rintro e w6 ⟨rfl,hb6⟩
     have HB6:=hid (HB5.out.trans (hb6.mono HB5.out.size))
     clear hb6
     go_wp2_with fail
     go_roundw
     case rel=>exact ⟨q+1,by omega,by go_num,HB6.out⟩
     case measure=>simp [intOf]; omega
    ·obtain rfl:q=6:=by omega
     go_wp2_with fail
     go_ret
     refine ⟨rfl,?_⟩
     exact ⟨_,_,Hr.out.mono (Nat.le_succ _),HQ.out.2.1,HQ.out.2.2.1.trans (Kept.of_below HBr.out),HQ.out.2.2.2⟩
 ·have e:cWake zs.length V s=2:=by unfold cWake; rw [if_neg hs]
  rw [e]
  have HS:=hid hs
  clear e hs
  go_enter Tryz.func58,Tryz.ntmps58
  go_wp2_with fail
  refine (find_no s H.out HE.out HS.out).mono ?_
  rintro e w1 ⟨rfl,hb⟩
  have HB1:=hid hb
  clear hb
  go_wp2_with fail
  go_ret
  exact ⟨rfl,H.out.out HB1.out (Nat.le_succ _)⟩
end
theorem step_append_fr1 {w:World} {ops:Array Oper} {o:Oper} {a:Act} {K:Act→World→Prop} {Q:Exit→Act→World→Prop} {E:Prop} (hgd:o.guard=none) (s x:Operand)
  (ho:o.op=.call { callee:=.builtin .append,args:=#[s,x],argTypes:=#[55,55] })
  (base n:Nat) (v:Value) (xs:List Value) (ad:Addr) (c:Nat) (F:F9) (hs:a.eval s=v) (hx:a.eval x=.slice (some ad) 1 c) (hown:w.ownsRow base 125 9 v n xs) (hu:∀ j u,(f9L F)[j]? = some u→w.cell? (ad.add j)=some u) (hn:n≤1000000000000) (hb:base≤w.heap.size)
  (h:∀ ad' cap' w',w'.ownsRow base 125 9 (.slice ad' (n+1) cap') (n+1) (xs ++ f9L F)→w.grownBy w' v.ownBlock→((Value.slice ad' (n+1) cap').ownBlock=v.ownBlock ∨ (Value.slice ad' (n+1) cap').ownBlock=some w.heap.size)→K (a.put o.dst (.slice ad' (n+1) cap')) w') :
  if Region.wanted o (yielded ops a.tmps)=true then Oper.wp Tryz.prog o a w K Q else E:=by
 have hw:Region.wanted o (yielded ops a.tmps)=true:=by simp [Region.wanted,hgd]
 rw [if_pos hw]
 obtain ⟨i0,hi0,hz0,hz1,hz2⟩:=info_parts Tryz.infoFq
 obtain ⟨v',w',hr,h2,h3,-,h5⟩:=run_append_own_at (P:=Tryz.prog) w base 55 o.type 125 i0 _ 9 72 Tryz.underlying55 hi0 hz0 hz1 hz2 rfl (by decide) v n xs hown ad 1 c (f9L F) rfl hu (f9_oneQ F) (by unfold maxLen; omega) (by omega) hb
 obtain ⟨ad',cap',rfl⟩:∃ ad' cap',v'=.slice ad' (n+1) cap':=by
  rcases h2.2 with ⟨e,h0⟩|⟨g,cap,cur,e,-⟩
  ·omega
  ·exact ⟨_,_,e⟩
 unfold Oper.wp execOp
 simp only [ho,resolve,invoke,builtin,Sem.run_bind,Sem.run_pure,Result.andThen_ok,List.map_toArray,List.map_cons,List.map_nil,hs,hx,hr]
 exact h ad' cap' w' h2 h3 h5
theorem step_append_fr1F {w:World} {ops:Array Oper} {o:Oper} {a:Act} {K:Act→World→Prop} {Q:Exit→Act→World→Prop} {E:Prop} (hgd:o.guard=none) (s x:Operand)
  (ho:o.op=.call { callee:=.builtin .append,args:=#[s,x],argTypes:=#[55,55] })
  (base n:Nat) (v:Value) (M:List F9) (b off c:Nat) (F:F9) (hM:M.length=n) (hs:a.eval s=v) (hx:a.eval x=.slice (some ⟨b,off,none⟩) 1 c) (hown:OwnF w base v M) (hu:∀ j u,(f9L F)[j]? = some u→w.cell? ((⟨b,off,none⟩:Addr).add j)=some u) (hn:n<1000000000000) (hb:base≤w.heap.size)
  (h:∀ ad' cap' w',OwnF w' base (.slice ad' (n+1) cap') (M ++ [F])→w.grownBy w' v.ownBlock→((Value.slice ad' (n+1) cap').ownBlock=v.ownBlock ∨ (Value.slice ad' (n+1) cap').ownBlock=some w.heap.size)→K (a.put o.dst (.slice ad' (n+1) cap')) w') :
  if Region.wanted o (yielded ops a.tmps)=true then Oper.wp Tryz.prog o a w K Q else E:=by
 have hw:Region.wanted o (yielded ops a.tmps)=true:=by simp [Region.wanted,hgd]
 rw [if_pos hw]
 have hfr:IsFr w (.slice (some ⟨b,off,none⟩) 1 c) [F]:=by
  refine ⟨_,c,rfl,fun i hi=>⟨b,off,rfl,fun j hj=>?_⟩⟩
  obtain rfl:i=0:=by simpa using hi
  have h9:(f9L F)[j]? = some ((f9L F)[j]'(by rw [f9L_length]; exact hj)):=List.getElem?_eq_getElem _
  have:=hu j _ h9
  rw [addr_add] at this
  rw [Nat.zero_mul,Nat.add_zero,this,← h9]
  rfl
 obtain ⟨v',w',hr,h2,h3,h5⟩:=run_append_frsF w o.type base v _ M [F] hown hfr (by show M.length+1≤_; omega) hb
 obtain ⟨ad',cap',rfl⟩:∃ ad' cap',v'=.slice ad' (n+1) cap':=by
  obtain ⟨ad',cap',e⟩:=h2.form
  exact ⟨ad',cap',by rw [e,List.length_append,hM]; rfl⟩
 unfold Oper.wp execOp
 simp only [ho,resolve,invoke,builtin,Sem.run_bind,Sem.run_pure,Result.andThen_ok,List.map_toArray,List.map_cons,List.map_nil,hs,hx,hr]
 exact h ad' cap' w' h2 h3 h5
section
variable {w0 w w':World} {C C':Nat→Nat} {K:NB} {X:XB} {i m m':Nat} {zs:List Int} {N:PN} {V V':PX} {A:Nat→Addr}
theorem sendX_nil:sendX V []=V:=by unfold sendX; rw [List.append_nil]
theorem sendX_app (L M:List F9):sendX (sendX V L) M=sendX V (L ++ M):=by unfold sendX; simp only [List.append_assoc]
theorem tell_step {W wr W2 w':World} {C1:Nat→Nat} {X1:XB} {s d ph pr k:Nat} {F:F9} {v':Value} (g1:WD w0 wr C1 X1 zs (sendX V (toL s d 7 pr ph k)) (m+k)) (g2:key X1=key X) (g3:Kept (OwnX C) W wr) (g4:∀ x,x<W.heap.size→C1 x=C x) (hb:Below wr.heap.size wr W2)
  (ho:OwnF w' w0.heap.size v' ((sendX V (toL s d 7 pr ph k)).fly ++ [F])) (hg:W2.grownBy w' X1.fv.ownBlock) (hw:v'.ownBlock=X1.fv.ownBlock ∨ v'.ownBlock=some W2.heap.size) (hs:s<zs.length) (hk:k<zs.length) (hn:zs.length≤7) (hd:d<6) (hp:ph≤5) (hr:pr≤1048576) (hF:F=⟨s,k,d,7,pr,false,ph,0,0⟩) :
  WOut w0 W (w'.setCell ⟨X.xb,3,none⟩ v') C X zs (sendX V (toL s d 7 pr ph (k+1))) (m+(k+1)):=by
 have hFI:∀ f,f∈[F]→FI zs.length f:=fun f hf=>by
  have hm2:f∈toL s d 7 (pr:Int) (ph:Int) (k+1):=by rw [toL,List.mem_append]; right; rw [← hF]; exact hf
  exact toL_fi hs hn hd (by decide) (by omega) (by omega) (k+1) hk f hm2
 obtain ⟨C2,h1,h2,h3⟩:=(g1.later hb).sent (L:=[F]) ho hg hw hFI (by show 1≤1000; decide)
 rw [key_xb g2] at h1 h2
 have e:sendX (sendX V (toL s d 7 pr ph k)) [F]=sendX V (toL s d 7 pr ph (k+1)):=by rw [sendX_app,hF]; rfl
 rw [e] at h1
 refine WOut.step (C1:=C1) (X1:=X1) g2 g3 g4 ?_
 refine WOut.step (C1:=C1) (X1:=X1) rfl (Kept.of_below hb) (fun _ _=>rfl) ?_
 exact ⟨C2,_,h1,(by unfold key; exact Prod.ext (key_xb g2).symm rfl),h2,h3⟩
theorem tellEnd_any (s d ph pr pa:Nat) (h:WD w0 w C X zs V m) (hs:s<zs.length) (hd:d<6) (hp:ph≤5) (hr:pr≤1048576) (hm:m<1000000) :
  Calls Tryz.prog 110 #[.pointer (some ⟨X.xb,0,none⟩),.int .i64 (s:Int),.int .i64 (d:Int),agS ph pr pa] w fun e w'=>e=.returned (.tuple #[])∧WOut w0 w w' C X zs (sendX V (toL s d 7 pr ph zs.length)) (m+7):=by
 obtain ⟨W,HW⟩:∃ W,Hid (w.alloc (.cells #[.int .i64 (ph:Int),.int .i64 (pr:Int),.int .i64 (pa:Int)] 80)=W):=⟨_,rfl⟩
 have HB:Hid (Below w.heap.size w W):=by rw [← HW.out]; exact (Below.refl _ _).alloc (Nat.le_refl _) _
 have HR:Hid (W.heap[w.heap.size]? = some (.cells #[.int .i64 (ph:Int),.int .i64 (pr:Int),.int .i64 (pa:Int)] 80 (0,0))):=by rw [← HW.out]; exact heap_alloc_new w _
 have H0:=hid h
 have H:=hid (h.later HB.out)
 obtain ⟨-,c1,-,-,-⟩:=H.out.cells
 have n7:=h.n7
 have HNW:Hid (2000≤C w.heap.size):=by
  rcases Nat.lt_or_ge (C w.heap.size) 2000 with q|q
  ·have:=h.lt _ q; omega
  ·exact q
 have HSS:=hid hs
 obtain ⟨n,hn⟩:∃ n,Hid (zs.length=n):=⟨_,rfl⟩
 rw [hn.out] at c1 n7 hs ⊢
 have hW:=HW.out
 clear h
 go_enter Tryz.func110,Tryz.ntmps110
 go_wp2_with fail
 clear c1
 go_loopw [14] (fun v wr=>∃ k:Nat,k≤n∧v=.int .i64 (k:Int)∧WOut w0 W wr C X zs (sendX V (toL s d 7 pr ph k)) (m+k)) (fun v _=>n - (intOf v).toNat)
 case atStart=>exact ⟨0,Nat.zero_le _,rfl,by show WOut w0 W W C X zs (sendX V []) m; rw [sendX_nil]; exact H.out.out (Below.refl _ _) (Nat.le_refl _)⟩
 case round =>
  obtain ⟨k,hk,rfl,C1,X1,g1,g2,g3,g4⟩:=hrel
  have HG:=hid (And.intro g1 (And.intro g2 (And.intro g3 g4)))
  have HRr:=hid (g3.row HR.out (fun e=>by have h1:=HNW.out; have h2:C w.heap.size<2000:=e; omega))
  have b0:wr.cell? ⟨w.heap.size,0,none⟩=some (.int .i64 (ph:Int)):=by rw [cell_of_row _ _ _ _ _ _ HRr.out]; rfl
  have b1:wr.cell? ⟨w.heap.size,1,none⟩=some (.int .i64 (pr:Int)):=by rw [cell_of_row _ _ _ _ _ _ HRr.out]; rfl
  obtain ⟨-,-,-,c3,-⟩:=g1.cells
  obtain ⟨nf,hnf⟩:∃ nf,Hid ((sendX V (toL s d 7 pr ph k)).fly.length=nf):=⟨_,rfl⟩
  obtain ⟨ad,cap,hv⟩:∃ ad cap,Hid (X1.fv=.slice ad nf cap):=by
   rw [← hnf.out]
   exact g1.fly.form
  have hnfb:nf<1000000000000:=by rw [← hnf.out]; have:=g1.inv.fl; omega
  rw [key_xb g2,hv.out] at c3
  have hb0:=g1.bel.size
  by_cases hlt:k<n
  ·obtain ⟨F,HF⟩:∃ F:F9,Hid (F=⟨s,k,d,7,pr,false,ph,0,0⟩):=⟨_,rfl⟩
   obtain ⟨W2,HW2⟩:∃ W2,Hid (wr.drew.alloc (.cells #[.int .i64 (s:Int),.int .i64 (k:Int),.int .i64 (d:Int),.int .i64 7,.int .i64 (pr:Int),.bool false,.int .i64 (ph:Int),.int .i64 0,.int .i64 0] 125)=W2):=⟨_,rfl⟩
   have HB2:Hid (Below wr.heap.size wr W2):=by rw [← HW2.out]; exact (Below.refl _ _).drew.alloc (Nat.le_refl _) _
   have H2:=hid (g1.later HB2.out)
   have HO:Hid (OwnF W2 w0.heap.size (.slice ad nf cap) (sendX V (toL s d 7 pr ph k)).fly):=by have:=H2.out.fly; rw [hv.out] at this; exact this
   have HLit:Hid (∀ j u,(f9L F)[j]? = some u→W2.cell? ((⟨wr.heap.size,0,none⟩:Addr).add j)=some u):=by rw [← HW2.out,HF.out]; exact lit_cellsQ wr.drew 125 (f9L ⟨s,k,d,7,pr,false,ph,0,0⟩)
   have hb2:w0.heap.size≤W2.heap.size:=H2.out.bel.size
   have HX:Hid (∀ w',W2.grownBy w' (Value.slice ad nf cap).ownBlock→w'.cell? ⟨X.xb,3,none⟩=some (.slice ad nf cap)∧w'.frozen? ⟨X.xb,3,none⟩=false):=by
    intro w' hg
    have hr:=(grown_kept hg).row H2.out.row (fun e=>by rw [← hv.out] at e; have h1:=H2.out.cf _ e; have h2:=H2.out.cx; omega)
    rw [key_xb HG.out.2.1] at hr
    exact ⟨by rw [cell_of_row _ _ _ _ _ _ hr,← hv.out]; rfl,frozen_of_row _ _ _ _ _ hr⟩
   have hW2:=HW2.out
   have e3:=cell_later HB2.out c3
   have e0:=cell_later HB2.out b0
   have e1:=cell_later HB2.out b1
   clear g1 g2 g3 g4
   go_wp2_with fail
   go_region_law ((refine step_append_fr1F (by rfl) _ _ (by rfl) w0.heap.size nf (.slice ad nf cap) (sendX V (toL s d 7 pr ph k)).fly wr.heap.size 0 1 F hnf.out (by rfl) (by rfl) (by exact HO.out) (by exact HLit.out) hnfb hb2 ?_; intro ad' cap' w' hown hg ho; obtain ⟨c3',z3'⟩:=HX.out w' hg; have HS:=hid (And.intro hown (And.intro hg ho)); clear hown hg ho))
   all_goals go_wp2_with fail
   all_goals go_roundw
   all_goals first|(simp [intOf]; omega)|skip
   all_goals refine ⟨k+1,by omega,by go_num,?_⟩
   all_goals rw [← hv.out] at HS
   all_goals rw [← hnf.out] at HS ⊢
   all_goals exact tell_step HG.out.1 HG.out.2.1 HG.out.2.2.1 HG.out.2.2.2 HB2.out HS.out.1 HS.out.2.1 HS.out.2.2 HSS.out (by rw [hn.out]; exact hlt) (by rw [hn.out]; exact n7.2) hd hp hr HF.out
  ·obtain rfl:k=n:=by omega
   clear g1 g2 g3 g4
   go_wp2_with fail
   go_end0
   refine ⟨rfl,?_⟩
   exact ⟨C1,X1,HG.out.1.mono (by omega),HG.out.2.1,(Kept.of_below HB.out).trans HG.out.2.2.1,fun x hx=>HG.out.2.2.2 x (Nat.lt_of_lt_of_le hx HB.out.size)⟩
end
theorem ins_any (base b o n c i vb:Nat) (cur:Array Value) (L:List F9) (F:F9) (w:World) (hb:w.heap[b]? = some (.cells cur 125 (0,0))) (hbase:base≤b) (hL:L.length=n) (hnc:n≤c) (hcm:c≤maxLen) (hsz:o+c * 9≤cur.size) (htk:∀ j,j<n * 9→cur[o+j]? = (frCells L)[j]?) (hbig:n≤1000000000000) (hi:i<n) (hvb:w.heap[vb]? = some (.cells (f9L F).toArray 125 (0,0))) (hne:vb≠b) :
  Calls Tryz.prog 117 #[.slice (some ⟨b,o,none⟩) n c,.int .i64 (i:Int),.slice (some ⟨vb,0,none⟩) 1 1] w fun e w'=>∃ g o' G,e=.returned (.slice (some ⟨g,o',none⟩) (n+1) G)∧OwnF w' base (.slice (some ⟨g,o',none⟩) (n+1) G) (insL L i F)∧Kept (In1 b) w w'∧(g=b ∨ g=w.heap.size):=by
 by_cases hr:n+1≤c
 ·refine (ins_room base b o n c i vb cur L F w hb hbase hL hr hcm hsz htk hi hvb hne).mono ?_
  rintro e w' ⟨h1,h2,h3⟩
  exact ⟨b,o,c,h1,h2,h3,.inl rfl⟩
 ·refine (ins_grow base b o n c i vb cur L F w hb (by have:=row_ltJ hb; omega) hL hnc (by omega) hbig htk hi hvb).mono ?_
  rintro e w' ⟨G,h1,h2,h3⟩
  refine ⟨_,0,G,h1,OwnF.of_own ?_,Kept.of_below h3,.inr rfl⟩
  rw [insL_length L i F (by omega),hL]
  exact h2
section
variable {w0 w w':World} {C C':Nat→Nat} {K:NB} {X:XB} {i m m':Nat} {zs:List Int} {N:PN} {V V':PX} {A:Nat→Addr}
theorem twice_no (s:Int) (h:WD w0 w C X zs V m) (hE:Held9 w0 A) (hs:¬ (0≤s∧s<V.fly.length)) :
  Calls Tryz.prog 49 #[.pointer (some ⟨X.xb,0,none⟩),.int .i64 s] w fun e w'=>e=.returned (ev A 4)∧w'=w:=by
 have H:=hid h
 have HB:=hid (decide_eq_false hs)
 have g3':w.cell? ⟨3,0,none⟩=some (.iface 318 (.pointer (some (A 3)))):=(h.held hE).var 3 (by decide)
 clear h hE hs
 go_enter Tryz.func49,Tryz.ntmps49
 go_wp2_with fail
 refine (flies_is s false H.out HB.out).mono ?_
 rintro e w1 ⟨rfl,hx⟩
 subst w1
 go_wp2_with fail
 go_ret
 exact ⟨rfl,rfl⟩
theorem XI.twice {k:Nat} {f:F9} (h:XI zs V m) (hf:f∈V.fly):XI zs (twiceX V k f) (m+1):=by
 refine ⟨h.he,fun i hi=>(h.nd i hi).mono (Nat.le_succ _),fun x hx=>?_,?_,h.ev⟩
 ·rcases List.mem_append.1 hx with g|g
  ·exact h.fr x (List.mem_of_mem_take g)
  ·rcases List.mem_cons.1 g with g|g
   ·rw [g]; exact h.fr f hf
   ·exact h.fr x (List.mem_of_mem_drop g)
 ·have:=h.fl
  show (V.fly.take k ++ f :: V.fly.drop k).length≤_
  rw [List.length_append,List.length_take,List.length_cons,List.length_drop]; omega
theorem WD.twiced {k g o c g' o' G:Nat} {f:F9} {W:World} (h:WD w0 w C X zs V m) (hv:X.fv=.slice (some ⟨g,o,none⟩) V.fly.length c) (hk:k<V.fly.length) (hf:f∈V.fly) (hb:Below w.heap.size w W) (hown:OwnF w' w0.heap.size (.slice (some ⟨g',o',none⟩) (V.fly.length+1) G) (insL V.fly k f)) (hkk:Kept (In1 g) W w') (hg:g'=g ∨ g'=W.heap.size) :
  WOut w0 w (w'.setCell ⟨X.xb,3,none⟩ (.slice (some ⟨g',o',none⟩) (V.fly.length+1) G)) C X zs (twiceX V k f) (m+1):=by
 have hW:=h.later hb
 have cg:C g=1005:=h.cf g (by rw [hv]; rfl)
 have hcx:=h.cx
 have hgx:g≠X.xb:=fun e=>by rw [e] at cg; omega
 have hrow:w'.heap[X.xb]? = some (.cells (wdC X zs.length).toArray 148 (0,0)):=hkk.row hW.row (fun e=>hgx (show X.xb=g from e).symm)
 have hxl:=row_ltJ hW.row
 have hS:∀ x,(x=X.xb ∨ x=g)→C x=1001 ∨ C x=1005 ∨ C x=1006:=fun x hx=>by
  rcases hx with rfl|rfl
  ·exact .inl h.cx
  ·exact .inr (.inl cg)
 have hK2:Kept (fun x=>x=X.xb ∨ x=g) W (w'.setCell ⟨X.xb,3,none⟩ (.slice (some ⟨g',o',none⟩) (V.fly.length+1) G)):=(hkk.mono (fun x hx=>.inr hx)).setCell (.inl rfl) _
 have hg'lt:g'<w'.heap.size:=(hown.lt _ rfl).2
 have hg'x:g'≠X.xb:=fun e=>by rcases hg with q|q <;> omega
 obtain ⟨C1,hC1,hl1,hcg1⟩:∃ C1:Nat→Nat,(∀ x,x<W.heap.size→C1 x=C x)∧(∀ x,W.heap.size≤x→C1 x<2000→x<(w'.setCell ⟨X.xb,3,none⟩ (.slice (some ⟨g',o',none⟩) (V.fly.length+1) G)).heap.size)∧C1 g'=1005:=by
  rcases hg with q|q
  ·exact ⟨C,fun _ _=>rfl,fun x hx hc=>by have:=hW.lt x hc; omega,by rw [q]; exact cg⟩
  ·refine ⟨paint C g' 1005,fun x hx=>paint_ne (by omega),fun x hx hc=>?_,paint_at _ _ _⟩
   by_cases e:x=g'
   ·rw [e]; simpa using hg'lt
   ·rw [paint_ne e] at hc
    have:=hW.lt x hc; omega
 have hl:(V.fly.take k ++ f :: V.fly.drop k).length=V.fly.length+1:=by rw [List.length_append,List.length_take,List.length_cons,List.length_drop]; omega
 refine WOut.step (C1:=C) (X1:=X) rfl (Kept.of_below hb) (fun _ _=>rfl) ?_
 refine ⟨C1,{ X with fv:=.slice (some ⟨g',o',none⟩) (V.fly.length+1) G },?_,rfl,hK2.mono (fun x hx=>by show C x<2000; rcases hS x hx with q|q|q <;> omega),hC1⟩
 refine hW.own (ev:=X.ev) (E:=V.evs) (F:=V.fly.take k ++ f :: V.fly.drop k) hK2 hS hC1 hl1 ?_ ?_ ?_ ?_ ?_ (Nat.le_succ _) (h.inv.twice hf)
 ·rw [heap_setCell_same w' X.xb 3 _ _ _ hrow]; rfl
 ·exact hown.kept ((Kept.refl (In1 X.xb) w').set1 3 _) (fun y hy e=>by
   have:g'=y:=Option.some.inj hy
   rw [← this] at e
   exact hg'x e)
 ·exact own_kept hW.evs hK2 (fun y hy e=>by
   have h6:=h.ce y hy
   rcases e with rfl|rfl
   ·omega
   ·omega)
 ·intro y hy
  have:g'=y:=Option.some.inj hy
  rw [← this]; exact hcg1
 ·intro y hy
  rw [hC1 y (own_lt hW.evs hy)]
  exact h.ce y hy
theorem twice_ok (j:Nat) (F:F9) (h:WD w0 w C X zs V m) (hj:j<V.fly.length) (hF:V.fly[j]'hj=F) (hm:m<1000000) :
  Calls Tryz.prog 49 #[.pointer (some ⟨X.xb,0,none⟩),.int .i64 (j:Int)] w fun e w'=>e=.returned .nilIface∧WOut w0 w w' C X zs (twiceX V j F) (m+1):=by
 obtain ⟨g,o,cap,cur,hv,h2,h3,h4,h5,h6,h7⟩:=h.flyForm (by omega)
 have hcl:=fly_cells h3 h7 hj
 rw [hF] at hcl
 obtain ⟨b0,b1,b2,b3,b4,b5,b6,b7,b8⟩:=nineO (o:=o+j * 9) hcl
 obtain ⟨-,-,-,c3,-⟩:=h.cells
 have cg:C g=1005:=h.cf g (by rw [hv]; rfl)
 have HMem:Hid (F∈V.fly):=by rw [← hF]; exact List.getElem_mem _
 have H:=hid h
 have HB:Hid (decide (0≤(j:Int)∧(j:Int)<V.fly.length)=true):=decide_eq_true (by omega)
 have hbig:V.fly.length≤1000000000000:=by have:=h.inv.fl; omega
 obtain ⟨n,hn⟩:∃ n,Hid (V.fly.length=n):=⟨_,rfl⟩
 have HV:=hid hv
 rw [hv] at c3
 obtain ⟨W,HW⟩:∃ W,Hid (w.drew.alloc (.cells (f9L F).toArray 125)=W):=⟨_,rfl⟩
 have HBW:Hid (Below w.heap.size w W):=by rw [← HW.out]; exact (Below.refl _ _).drew.alloc (Nat.le_refl _) _
 have HRW:Hid (W.heap[w.heap.size]? = some (.cells (f9L F).toArray 125 (0,0))):=by rw [← HW.out]; exact heap_alloc_new w.drew _
 have hW:=HW.out
 have c3W:=cell_later HBW.out c3
 have HIns:=hid (ins_any w0.heap.size g o n cap j w.heap.size cur V.fly F W ((HBW.out.block _ (row_ltJ h3)).trans h3) h2 hn.out (by rw [← hn.out]; exact h4) h5 h6 (by rw [← hn.out]; exact h7) (by rw [← hn.out]; exact hbig) (by rw [← hn.out]; exact hj) HRW.out (by have:=row_ltJ h3; omega))
 have HJ:=hid hj
 rw [hn.out] at c3 c3W hbig hj
 have HX:Hid (∀ w',Kept (In1 g) W w'→w'.cell? ⟨X.xb,3,none⟩=some (.slice (some ⟨g,o,none⟩) n cap)∧w'.frozen? ⟨X.xb,3,none⟩=false):=by
  intro w' hkk
  have hr:=hkk.row (H.out.later HBW.out).row (fun e=>by have h1:=H.out.cx; rw [show X.xb=g from e,cg] at h1; omega)
  exact ⟨by rw [cell_of_row _ _ _ _ _ _ hr,← hn.out,← HV.out]; rfl,frozen_of_row _ _ _ _ _ hr⟩
 obtain ⟨ff,ft,fd,fk,fa,fy,fp1,fp2,fp3⟩:=F
 simp only at b0 b1 b2 b3 b4 b5 b6 b7 b8
 have e0:=cell_later HBW.out b0
 have hW':w.drew.alloc (.cells #[.int .i64 ff,.int .i64 ft,.int .i64 fd,.int .i64 fk,.int .i64 fa,.bool fy,.int .i64 fp1,.int .i64 fp2,.int .i64 fp3] 125)=W:=hW
 have HXB:Hid (X.xb<W.heap.size):=by have:=row_ltJ (H.out.later HBW.out).row; exact this
 clear h hv h2 h3 h4 h5 h6 h7 cg hcl hF hW
 go_enter Tryz.func49,Tryz.ntmps49
 go_wp2_with fail
 refine (flies_is (j:Int) true H.out HB.out).mono ?_
 rintro e w1 ⟨rfl,hx⟩
 subst w1
 go_wp2_with fail
 go_region_with ((go_at_call 117; (with_reducible refine HIns.out.mono ?_); rintro e w2 ⟨g',o',G,rfl,ho2,hk2,hg2⟩; obtain ⟨q3,qz⟩:=HX.out w2 hk2; have HO:=hid (And.intro ho2 (And.intro hk2 hg2)); clear ho2 hk2 hg2))
 all_goals go_wp2_with fail
 all_goals go_ret
 all_goals refine ⟨rfl,?_⟩
 all_goals rw [← hn.out] at HO ⊢
 all_goals exact H.out.twiced HV.out HJ.out HMem.out HBW.out HO.out.1 HO.out.2.1 HO.out.2.2
end
section
variable {w0 w w':World} {C C':Nat→Nat} {K:NB} {X:XB} {i m m':Nat} {zs:List Int} {N:PN} {V V':PX} {A:Nat→Addr}
theorem pkey_inj {a b a' b':Nat} {l:Lit} (h1:keyOf Tryz.prog 172 (pairV a b)=some l) (h2:keyOf Tryz.prog 172 (pairV a' b')=some l):a=a'∧b=b':=by
 have:=plaw.inj h1 h2
 unfold pairV at this
 simp at this
 omega
theorem WD.linked {a b:Nat} {whole:Bool} (h:WD w0 w C X zs V m) (hk:Kept (In1 X.mb) w w') (hD:∃ D:DataW Unit,w'.ownsMap Tryz.prog 172 unitElem X.mb (m+1) D∧∀ x y,x<7→y<7→∀ l,keyOf Tryz.prog 172 (pairV x y)=some l→Maps.has D l=(linkX V a b whole).br x y) :
  WOut w0 w w' C X zs (linkX V a b whole) (m+1):=by
 have n7:=h.n7.2
 have cx:=h.cx; have cw:=h.cw; have cn:=h.cn; have cm:=h.cm
 have hlow:∀ x,In1 X.mb x→w0.heap.size≤x:=fun x hx=>by rw [show x=_ from hx]; exact h.low _ (by omega)
 have nS:∀ x,C x≠1004→¬ In1 X.mb x:=fun x g hx=>by rw [show x=X.mb from hx] at g; exact g cm
 refine ⟨C,X,⟨hk.below h.bel.size hlow h.bel,hk.row h.row (nS _ (by omega)),fun e he=>cell_kept (h.ws e he) hk (nS _ (by show C X.wb≠_; omega)),fun e he=>cell_kept (h.ns e he) hk (nS _ (by show C X.nb≠_; omega)),fun e he=>((h.nds e he).kept hk (fun x _ hx=>nS x (by omega)) hlow).mono (Nat.le_succ _),hD,h.fly.kept hk (fun g hg=>nS g (by have:=h.cf g hg; omega)),own_kept h.evs hk (fun g hg=>nS g (by have:=h.ce g hg; omega)),h.cx,h.cw,h.cn,h.cm,h.cf,h.ce,fun x hx=>Nat.lt_of_lt_of_le (h.lt x hx) hk.size,h.low,?_⟩,rfl,hk.mono (fun x hx=>by rw [show x=_ from hx]; show C _<2000; omega),fun _ _=>rfl⟩
 exact ⟨h.inv.he,fun i hi=>(h.inv.nd i hi).mono (Nat.le_succ _),h.inv.fr,by have:=h.inv.fl; show V.fly.length≤_; omega,h.inv.ev⟩
theorem turned_kept {b:Nat} (h:w.mapTurned w' b):Kept (In1 b) w w':=by
 obtain ⟨es,cl,es',cl',hb,rfl⟩:=h
 refine ⟨rfl,rfl,rfl,?_,fun k hk hs=>?_⟩
 ·show w.heap.size≤(w.heap.setIfInBounds b (.map es' cl')).size
  simp
 ·show (w.heap.setIfInBounds b (.map es' cl'))[k]? = w.heap[k]?
  rw [Array.getElem?_setIfInBounds_ne (fun e=>hs (show k=b from e.symm))]
theorem WD.breaks {a b:Nat} (h:WD w0 w C X zs V m) (hm:m<1000000) (ha:a<7) (hb:b<7) :
  ∃ w4,(Instr.mapUpdate 146 (.map (some X.mb)) (pairV (min a b) (max a b)) (.agg #[])).run Tryz.prog w=.ok () w4∧w4.cell? ⟨X.xb,2,none⟩=some (.map (some X.mb))∧WOut w0 w w4 C X zs (linkX V a b false) (m+1):=by
 obtain ⟨D,hD,hh⟩:=h.brk
 obtain ⟨l,hl⟩:=pkey_some (min a b) (max a b) (by omega) (by omega)
 obtain ⟨w4,hr,ho,ht⟩:=hD.store plaw Tryz.underlying146 (by unfold maxLen; omega) hl unitElem_mk
 refine ⟨w4,hr,cell_kept h.cells.2.2.1 (turned_kept ht) (fun e=>by have h1:=h.cx; have h2:=h.cm; rw [show X.xb=X.mb from e] at h1; omega),h.linked (turned_kept ht) ⟨_,ho,fun x y hx hy l2 hl2=>?_⟩⟩
 show _=if x=min a b∧y=max a b then !false else V.br x y
 by_cases g:x=min a b∧y=max a b
 ·rw [if_pos g]
  rw [g.1,g.2,hl] at hl2
  obtain rfl:=Option.some.inj hl2
  exact Maps.has_put_same hD.isMap (plaw.key hl) _
 ·rw [if_neg g,Maps.has_put_other (fun e=>g ?_)]
  ·exact hh x y hx hy l2 hl2
  ·rw [e] at hl2
   exact pkey_inj hl2 hl
theorem WD.mends {a b:Nat} (h:WD w0 w C X zs V m) (ha:a<7) (hb:b<7) (ty:TypeId) :
  ∃ w4,(Builtin.delete_ #[146,172] ty #[.map (some X.mb),pairV (min a b) (max a b)]).run Tryz.prog w=.ok (.tuple #[]) w4∧w4.cell? ⟨X.xb,2,none⟩=some (.map (some X.mb))∧WOut w0 w w4 C X zs (linkX V a b true) (m+1):=by
 obtain ⟨D,hD,hh⟩:=h.brk
 obtain ⟨l,hl⟩:=pkey_some (min a b) (max a b) (by omega) (by omega)
 obtain ⟨w4,hr,ho,ht⟩:=hD.drop plaw Tryz.underlying146 hl ty
 refine ⟨w4,hr,cell_kept h.cells.2.2.1 (turned_kept ht) (fun e=>by have h1:=h.cx; have h2:=h.cm; rw [show X.xb=X.mb from e] at h1; omega),h.linked (turned_kept ht) ⟨_,ho.mono (Nat.le_succ _),fun x y hx hy l2 hl2=>?_⟩⟩
 show _=if x=min a b∧y=max a b then !true else V.br x y
 by_cases g:x=min a b∧y=max a b
 ·rw [if_pos g]
  rw [g.1,g.2,hl] at hl2
  obtain rfl:=Option.some.inj hl2
  exact Maps.has_del_same
 ·rw [if_neg g,Maps.has_del_other (fun e=>g ?_)]
  ·exact hh x y hx hy l2 hl2
  ·rw [e] at hl2
   exact pkey_inj hl2 hl
theorem link_ok (a b:Nat) (whole:Bool) (h:WD w0 w C X zs V m) (ha:a<zs.length) (hb:b<zs.length) (hm:m<1000000) :
  Calls Tryz.prog 51 #[.pointer (some ⟨X.xb,0,none⟩),.int .i64 (a:Int),.int .i64 (b:Int),.bool whole] w fun e w'=>e=.returned .nilIface∧WOut w0 w w' C X zs (linkX V a b whole) (m+1):=by
 have H:=hid h
 have n7:=h.n7
 obtain ⟨-,-,c2,-,-⟩:=h.cells
 have HA:=hid (has_is (a:Int) true h (decide_eq_true (by omega)))
 have HB:=hid (has_is (b:Int) true h (decide_eq_true (by omega)))
 have h7:a<7∧b<7:=by omega
 clear h
 cases whole with
 | true =>
  have HM:Hid (∀ w3,Below w.heap.size w w3→∃ w4,(Builtin.delete_ #[146,172] 0 #[.map (some X.mb),pairV (min a b) (max a b)]).run Tryz.prog w3=.ok (.tuple #[]) w4∧w4.cell? ⟨X.xb,2,none⟩=some (.map (some X.mb))∧WOut w0 w w4 C X zs (linkX V a b true) (m+1)):=by
   intro w3 hb3
   obtain ⟨w4,h1,h0,h2⟩:=(H.out.later hb3).mends h7.1 h7.2 0
   exact ⟨w4,h1,h0,WOut.step (C1:=C) (X1:=X) rfl (Kept.of_below hb3) (fun _ _=>rfl) h2⟩
  go_enter Tryz.func51,Tryz.ntmps51
  go_wp2_with (first|(go_at_call 118; (with_reducible refine HA.out.mono ?_); rintro e w1 ⟨rfl,hx⟩; subst w1)|(go_at_call 118; (with_reducible refine HB.out.mono ?_); rintro e w1 ⟨rfl,hx⟩; subst w1))
  go_region_held3 (fun V=>V.cell? ⟨X.xb,2,none⟩=some (.map (some X.mb))) (go_keep) (first|(go_at_call 119; (with_reducible refine (between_p a b _).mono ?_); rintro e w3 ⟨rfl,hb3⟩; have q0:=cell_later hb3 c2; obtain ⟨w4,hr4,q4,ho4⟩:=HM.out w3 ((Below.refl _ _).drew.trans hb3); have HO4:=hid ho4; clear hb3 ho4))
  all_goals go_wp2_with fail
  all_goals go_ret
  all_goals exact ⟨rfl,HO4.out⟩
 | false =>
  have HM:Hid (∀ w3,Below w.heap.size w w3→∃ w4,(Instr.mapUpdate 146 (.map (some X.mb)) (pairV (min a b) (max a b)) (.agg #[])).run Tryz.prog w3=.ok () w4∧w4.cell? ⟨X.xb,2,none⟩=some (.map (some X.mb))∧WOut w0 w w4 C X zs (linkX V a b false) (m+1)):=by
   intro w3 hb3
   obtain ⟨w4,h1,h0,h2⟩:=(H.out.later hb3).breaks hm h7.1 h7.2
   exact ⟨w4,h1,h0,WOut.step (C1:=C) (X1:=X) rfl (Kept.of_below hb3) (fun _ _=>rfl) h2⟩
  go_enter Tryz.func51,Tryz.ntmps51
  go_wp2_with (first|(go_at_call 118; (with_reducible refine HA.out.mono ?_); rintro e w1 ⟨rfl,hx⟩; subst w1)|(go_at_call 118; (with_reducible refine HB.out.mono ?_); rintro e w1 ⟨rfl,hx⟩; subst w1))
  go_region_held3 (fun V=>V.cell? ⟨X.xb,2,none⟩=some (.map (some X.mb))) (go_keep) (first|(go_at_call 119; (with_reducible refine (between_p a b _).mono ?_); rintro e w3 ⟨rfl,hb3⟩; have q0:=cell_later hb3 c2; obtain ⟨w4,hr4,q4,ho4⟩:=HM.out w3 ((Below.refl _ _).drew.trans hb3); have HO4:=hid ho4; clear hb3 ho4))
  all_goals go_wp2_with fail
  all_goals go_ret
  all_goals exact ⟨rfl,HO4.out⟩
theorem link_no (a b:Int) (whole:Bool) (h:WD w0 w C X zs V m) (hE:Held9 w0 A) (hs:¬ ((0≤a∧a<zs.length)∧0≤b∧b<zs.length)) :
  Calls Tryz.prog 51 #[.pointer (some ⟨X.xb,0,none⟩),.int .i64 a,.int .i64 b,.bool whole] w fun e w'=>e=.returned (ev A 2)∧w'=w:=by
 have g1:w.cell? ⟨0,0,none⟩=some (.iface 318 (.pointer (some (A 1)))):=(h.held hE).var 1 (by decide)
 have HA:=hid (fun x=>has_is a x h)
 have HB:=hid (fun x=>has_is b x h)
 clear h
 by_cases ha:0≤a∧a<zs.length
 ·have hb:¬ (0≤b∧b<zs.length):=fun g=>hs ⟨ha,g⟩
  have HA1:=hid (HA.out true (decide_eq_true ha))
  have HB1:=hid (HB.out false (decide_eq_false hb))
  clear HA HB ha hb hs
  go_enter Tryz.func51,Tryz.ntmps51
  go_wp2_with (first|(go_at_call 118; (with_reducible refine HA1.out.mono ?_); rintro e w1 ⟨rfl,hx⟩; subst w1)|(go_at_call 118; (with_reducible refine HB1.out.mono ?_); rintro e w1 ⟨rfl,hx⟩; subst w1))
  go_ret
  exact ⟨rfl,rfl⟩
 ·have HA1:=hid (HA.out false (decide_eq_false ha))
  clear HA HB ha hs
  go_enter Tryz.func51,Tryz.ntmps51
  go_wp2_with (first|(go_at_call 118; (with_reducible refine HA1.out.mono ?_); rintro e w1 ⟨rfl,hx⟩; subst w1))
  go_ret
  exact ⟨rfl,rfl⟩
end
theorem eval_form {a:Act} {i:Nat} {v:Value} (h:a.eval (.tmp i)=v):a.tmps[i]?.getD undef=v:=by
 unfold Act.eval at h
 simpa using h
def reg14S (lb fb:Nat) (vh:Value) (F:F9) (w':World):Prop:=w'.cell? ⟨lb,6,none⟩=some vh∧w'.cell? ⟨fb,0,none⟩=some (.int .i64 F.f)∧w'.cell? ⟨fb,1,none⟩=some (.int .i64 F.t)∧w'.cell? ⟨fb,2,none⟩=some (.int .i64 F.d)∧w'.cell? ⟨fb,3,none⟩=some (.int .i64 F.k)∧w'.cell? ⟨fb,4,none⟩=some (.int .i64 F.a)∧w'.cell? ⟨fb,5,none⟩=some (.bool F.y)∧w'.cell? ⟨fb,6,none⟩=some (.int .i64 F.ph)∧w'.cell? ⟨fb,7,none⟩=some (.int .i64 F.pr)∧w'.cell? ⟨fb,8,none⟩=some (.int .i64 F.pa)
theorem reg14 {Q:Exit→Act→World→Prop} (a:Act) (w:World) (lb fb:Nat) (vh:Value) (F:F9) (n:Nat) (xs:List Value) (base:Nat) (hz:124<a.tmps.size) (h0:a.eval (.tmp 0)=.pointer (some ⟨lb,0,none⟩)) (h3:a.eval (.tmp 3)=.pointer (some ⟨fb,0,none⟩)) (hS:reg14S lb fb vh F w) (hlb:lb<w.heap.size) (hfb:fb<w.heap.size) (hvb:vh.ownBlock≠some lb) (hvf:vh.ownBlock≠some fb)
  (hown:w.ownsRow base 125 9 vh n xs) (hn:n≤1000000000000) (hb:base≤w.heap.size) (hQp:∀ c (d:Nat) v (a:Act) w,Q (.panic c) (a.put (some d) v) w→Q (.panic c) a w)
  (hQ:∀ a' ad' cap' w',w'.ownsRow base 125 9 (.slice ad' (n+1) cap') (n+1) (xs ++ f9L F)→(w.drew.alloc (.cells (f9L F).toArray 125)).grownBy w' vh.ownBlock→((Value.slice ad' (n+1) cap').ownBlock=vh.ownBlock ∨ (Value.slice ad' (n+1) cap').ownBlock=some (w.drew.alloc (.cells (f9L F).toArray 125)).heap.size) →
   a'=(((((((a.put (some 118) (.pointer (some ⟨lb,0,none⟩))).put (some 119) (.pointer (some ⟨lb,0,none⟩))).put (some 120) (.pointer (some ⟨lb,6,none⟩))).put (some 121) vh).put (some 122) (frV F.f F.t F.d F.k F.a F.y F.ph F.pr F.pa)).put (some 123) (.slice (some ⟨w.heap.size,0,none⟩) 1 1)).put (some 124) (.slice ad' (n+1) cap')).put (some 7) (.slice ad' (n+1) cap')→Q .normal a' w') :
  (Code.region 14 #[{ dst:=some 118,op:=Op.move (Operand.tmp 0),type:=111,pos:= "world.go:175",after:=#[],guard:=none },
   { dst:=some 119,op:=Op.nilCheck (Operand.tmp 118),type:=0,pos:= "world.go:175",after:=#[{ on:=0,ground:=Ground.data }],guard:=none },
   { dst:=some 120,op:=Op.fieldAddr 121 (Operand.tmp 119) 6,type:=0,pos:= "world.go:175",after:=#[{ on:=1,ground:=Ground.data }],guard:=none },
   { dst:=some 121,op:=Op.load 55 (Operand.tmp 120),type:=55,pos:= "world.go:175",after:=#[{ on:=2,ground:=Ground.data }],guard:=none },
   { dst:=some 122,op:=Op.load 125 (Operand.tmp 3),type:=125,pos:= "world.go:175",after:=#[],guard:=none },
   { dst:=some 123,op:=Op.buildSlice 55 1 #[(0,Operand.tmp 122)],type:=55,pos:= "world.go:175",after:=#[{ on:=4,ground:=Ground.data }],guard:=none },
   { dst:=some 124,op:=Op.call { callee:=Callee.builtin Builtin.append,args:=#[Operand.tmp 121,Operand.tmp 123],argTypes:=#[55,55] },type:=55,pos:= "world.go:175",after:=#[{ on:=3,ground:=Ground.data },{ on:=5,ground:=Ground.data }],guard:=none },
   { dst:=some 7,op:=Op.assign (Operand.tmp 124),type:=55,pos:= "world.go:175",after:=#[{ on:=6,ground:=Ground.data },{ on:=6,ground:=Ground.chain },{ on:=0,ground:=Ground.phase },{ on:=1,ground:=Ground.phase },{ on:=2,ground:=Ground.phase },{ on:=3,ground:=Ground.phase },{ on:=4,ground:=Ground.phase },{ on:=5,ground:=Ground.phase },{ on:=6,ground:=Ground.phase }],guard:=none }] true).wp Tryz.prog Q a w:=by
 refine wp_region_held_drew (S:=reg14S lb fb vh F) (by kernel_rfl) hS (fun hHeld=>?_)
 refine wpAnyH_take (i:=0) (oi:={ dst:=some 118,op:=Op.move (Operand.tmp 0),type:=111,pos:= "world.go:175",after:=#[],guard:=none }) (v:=(.pointer (some ⟨lb,0,none⟩))) rfl (by kernel_rfl) (by kernel_rfl) (by kernel_rfl) (fun c a w h=>hQp c _ _ a w h) (Or.inl ⟨by rfl,?_⟩) hHeld ?_
 ·intro w hSw
  unfold reg14S at hSw
  obtain ⟨s0,s1,s2,s3,s4,s5,s6,s7,s8,s9⟩:=hSw
  have e0:=eval_form h0
  clear hS hown hQ hQp
  go_simp
 change wpAnyH _ _ _ _ _ _ _ (Act.put a (some 118) (.pointer (some ⟨lb,0,none⟩))) _
 obtain ⟨a1,Ha1⟩:∃ x,Hid (x=Act.put a (some 118) (.pointer (some ⟨lb,0,none⟩))):=⟨_,rfl⟩
 rw [← Ha1.out]
 have z1:124<a1.tmps.size:=by rw [Ha1.out,Act.size_put]; exact hz
 have e118:a1.eval (.tmp 118)=(.pointer (some ⟨lb,0,none⟩)):=by rw [Ha1.out]; exact Act.eval_put_same _ _ _ (by have:=hz; omega)
 have g3_0:a1.eval (.tmp 3)=.pointer (some ⟨fb,0,none⟩):=by rw [Ha1.out,Act.eval_put_ne _ _ _ _ (by decide)]; exact h3
 refine wpAnyH_take (i:=1) (oi:={ dst:=some 119,op:=Op.nilCheck (Operand.tmp 118),type:=0,pos:= "world.go:175",after:=#[{ on:=0,ground:=Ground.data }],guard:=none }) (v:=(.pointer (some ⟨lb,0,none⟩))) rfl (by kernel_rfl) (by kernel_rfl) (by kernel_rfl) (fun c a w h=>hQp c _ _ a w h) (Or.inl ⟨by rfl,?_⟩) hHeld ?_
 ·intro w hSw
  unfold reg14S at hSw
  obtain ⟨s0,s1,s2,s3,s4,s5,s6,s7,s8,s9⟩:=hSw
  have e0:=eval_form e118
  clear hS hown hQ hQp
  go_simp
 change wpAnyH _ _ _ _ _ _ _ (Act.put a1 (some 119) (.pointer (some ⟨lb,0,none⟩))) _
 obtain ⟨a2,Ha2⟩:∃ x,Hid (x=Act.put a1 (some 119) (.pointer (some ⟨lb,0,none⟩))):=⟨_,rfl⟩
 rw [← Ha2.out]
 have z2:124<a2.tmps.size:=by rw [Ha2.out,Act.size_put]; exact z1
 have e119:a2.eval (.tmp 119)=(.pointer (some ⟨lb,0,none⟩)):=by rw [Ha2.out]; exact Act.eval_put_same _ _ _ (by have:=z1; omega)
 have g3_1:a2.eval (.tmp 3)=.pointer (some ⟨fb,0,none⟩):=by rw [Ha2.out,Act.eval_put_ne _ _ _ _ (by decide)]; exact g3_0
 refine wpAnyH_take (i:=2) (oi:={ dst:=some 120,op:=Op.fieldAddr 121 (Operand.tmp 119) 6,type:=0,pos:= "world.go:175",after:=#[{ on:=1,ground:=Ground.data }],guard:=none }) (v:=(.pointer (some ⟨lb,6,none⟩))) rfl (by kernel_rfl) (by kernel_rfl) (by kernel_rfl) (fun c a w h=>hQp c _ _ a w h) (Or.inl ⟨by rfl,?_⟩) hHeld ?_
 ·intro w hSw
  unfold reg14S at hSw
  obtain ⟨s0,s1,s2,s3,s4,s5,s6,s7,s8,s9⟩:=hSw
  have e0:=eval_form e119
  clear hS hown hQ hQp
  go_simp
 change wpAnyH _ _ _ _ _ _ _ (Act.put a2 (some 120) (.pointer (some ⟨lb,6,none⟩))) _
 obtain ⟨a3,Ha3⟩:∃ x,Hid (x=Act.put a2 (some 120) (.pointer (some ⟨lb,6,none⟩))):=⟨_,rfl⟩
 rw [← Ha3.out]
 have z3:124<a3.tmps.size:=by rw [Ha3.out,Act.size_put]; exact z2
 have e120:a3.eval (.tmp 120)=(.pointer (some ⟨lb,6,none⟩)):=by rw [Ha3.out]; exact Act.eval_put_same _ _ _ (by have:=z2; omega)
 have g3_2:a3.eval (.tmp 3)=.pointer (some ⟨fb,0,none⟩):=by rw [Ha3.out,Act.eval_put_ne _ _ _ _ (by decide)]; exact g3_1
 refine wpAnyH_take (i:=3) (oi:={ dst:=some 121,op:=Op.load 55 (Operand.tmp 120),type:=55,pos:= "world.go:175",after:=#[{ on:=2,ground:=Ground.data }],guard:=none }) (v:=vh) rfl (by kernel_rfl) (by kernel_rfl) (by kernel_rfl) (fun c a w h=>hQp c _ _ a w h) (Or.inl ⟨by rfl,?_⟩) hHeld ?_
 ·intro w hSw
  unfold reg14S at hSw
  obtain ⟨s0,s1,s2,s3,s4,s5,s6,s7,s8,s9⟩:=hSw
  have e0:=eval_form e120
  clear hS hown hQ hQp
  go_simp
 change wpAnyH _ _ _ _ _ _ _ (Act.put a3 (some 121) vh) _
 obtain ⟨a4,Ha4⟩:∃ x,Hid (x=Act.put a3 (some 121) vh):=⟨_,rfl⟩
 rw [← Ha4.out]
 have z4:124<a4.tmps.size:=by rw [Ha4.out,Act.size_put]; exact z3
 have e121:a4.eval (.tmp 121)=vh:=by rw [Ha4.out]; exact Act.eval_put_same _ _ _ (by have:=z3; omega)
 have e3:a4.eval (.tmp 3)=.pointer (some ⟨fb,0,none⟩):=by rw [Ha4.out,Act.eval_put_ne _ _ _ _ (by decide)]; exact g3_2
 refine wpAnyH_take (i:=4) (oi:={ dst:=some 122,op:=Op.load 125 (Operand.tmp 3),type:=125,pos:= "world.go:175",after:=#[],guard:=none }) (v:=(frV F.f F.t F.d F.k F.a F.y F.ph F.pr F.pa)) rfl (by kernel_rfl) (by kernel_rfl) (by kernel_rfl) (fun c a w h=>hQp c _ _ a w h) (Or.inl ⟨by rfl,?_⟩) hHeld ?_
 ·intro w hSw
  unfold reg14S at hSw
  obtain ⟨s0,s1,s2,s3,s4,s5,s6,s7,s8,s9⟩:=hSw
  have e0:=eval_form e3
  clear hS hown hQ hQp
  go_simp
 change wpAnyH _ _ _ _ _ _ _ (Act.put a4 (some 122) (frV F.f F.t F.d F.k F.a F.y F.ph F.pr F.pa)) _
 obtain ⟨a5,Ha5⟩:∃ x,Hid (x=Act.put a4 (some 122) (frV F.f F.t F.d F.k F.a F.y F.ph F.pr F.pa)):=⟨_,rfl⟩
 rw [← Ha5.out]
 have z5:124<a5.tmps.size:=by rw [Ha5.out,Act.size_put]; exact z4
 have e122:a5.eval (.tmp 122)=(frV F.f F.t F.d F.k F.a F.y F.ph F.pr F.pa):=by rw [Ha5.out]; exact Act.eval_put_same _ _ _ (by have:=z4; omega)
 have f121:a5.eval (.tmp 121)=vh:=by rw [Ha5.out,Act.eval_put_ne _ _ _ _ (by decide)]; exact e121
 obtain ⟨W2,HW2⟩:∃ W2,Hid (w.drew.alloc (.cells (f9L F).toArray 125)=W2):=⟨_,rfl⟩
 have HB2:Hid (Below w.heap.size w W2):=by rw [← HW2.out]; exact (Below.refl _ _).drew.alloc (Nat.le_refl _) _
 have HSf:Hid (∀ W,(∀ x,x<w.heap.size→vh.ownBlock≠some x→W.heap[x]? = w.heap[x]?)→reg14S lb fb vh F W):=by
  intro W hW
  have c1:=World.cell?_of_block (w:=w) (w':=W) (a:=⟨lb,6,none⟩) (hW lb hlb hvb)
  have c2:∀ j,W.cell? ⟨fb,j,none⟩=w.cell? ⟨fb,j,none⟩:=fun j=>World.cell?_of_block (w:=w) (w':=W) (a:=⟨fb,j,none⟩) (hW fb hfb hvf)
  unfold reg14S at hS ⊢
  rw [c1,c2,c2,c2,c2,c2,c2,c2,c2,c2]
  exact hS
 have HS2:Hid (reg14S lb fb vh F W2):=HSf.out W2 (fun x hx _=>HB2.out.block x hx)
 refine wpAnyH_ready (rs:=[5]) (by kernel_rfl) (by simp) ?_
 refine AllReadyH.cons (o:={ dst:=some 123,op:=Op.buildSlice 55 1 #[(0,Operand.tmp 122)],type:=55,pos:= "world.go:175",after:=#[{ on:=4,ground:=Ground.data }],guard:=none }) rfl (fun K hK=>?_) AllReadyH.nil
 have e0:=eval_form e122
 have hW2:=HW2.out
 have hW2':w.drew.alloc (.cells #[.int .i64 F.f,.int .i64 F.t,.int .i64 F.d,.int .i64 F.k,.int .i64 F.a,.bool F.y,.int .i64 F.ph,.int .i64 F.pr,.int .i64 F.pa] 125)=W2:=hW2
 have HQ:=hid hQ
 have HQp:=hid hQp
 have HOw:=hid hown
 have HS0:=hid hS
 clear hQ hQp hown hS hW2 hHeld
 go_simp
 refine hK.out _ _ HS2.out (fun hHeld=>?_)
 clear hK K
 change wpAnyH _ _ _ _ _ _ _ (Act.put a5 (some 123) (.slice (some ⟨w.heap.size,0,none⟩) 1 1)) _
 obtain ⟨a6,Ha6⟩:∃ x,Hid (x=Act.put a5 (some 123) (.slice (some ⟨w.heap.size,0,none⟩) 1 1)):=⟨_,rfl⟩
 rw [← Ha6.out]
 have z6:124<a6.tmps.size:=by rw [Ha6.out,Act.size_put]; exact z5
 have e123:a6.eval (.tmp 123)=.slice (some ⟨w.heap.size,0,none⟩) 1 1:=by rw [Ha6.out]; exact Act.eval_put_same _ _ _ (by have:=z5; omega)
 have g121:a6.eval (.tmp 121)=vh:=by rw [Ha6.out,Act.eval_put_ne _ _ _ _ (by decide)]; exact f121
 refine wpAnyH_ready (rs:=[6]) (by kernel_rfl) (by simp) ?_
 refine AllReadyH.cons (o:={ dst:=some 124,op:=Op.call { callee:=Callee.builtin Builtin.append,args:=#[Operand.tmp 121,Operand.tmp 123],argTypes:=#[55,55] },type:=55,pos:= "world.go:175",after:=#[{ on:=3,ground:=Ground.data },{ on:=5,ground:=Ground.data }],guard:=none }) rfl (fun K hK=>?_) AllReadyH.nil
 refine step_append_fr1 rfl (.tmp 121) (.tmp 123) rfl base n vh xs ⟨w.heap.size,0,none⟩ 1 F g121 e123 (own_later HOw.out HB2.out (Nat.le_refl _)) (by rw [← HW2.out]; exact lit_cellsQ w.drew 125 (f9L F)) hn (Nat.le_trans hb HB2.out.size) ?_
 intro ad' cap' w3 hown3 hg3 hat3
 refine hK.out _ _ (HSf.out w3 (fun x hx hne=>(hg3.block x (Nat.lt_of_lt_of_le hx HB2.out.size) (fun e=>hne e.symm)).trans (HB2.out.block x hx))) (fun hHeld=>?_)
 clear hK K
 obtain ⟨a7,Ha7⟩:∃ x,Hid (x=Act.put a6 (some 124) (.slice ad' (n+1) cap')):=⟨_,rfl⟩
 change wpAnyH _ _ _ _ _ _ _ (Act.put a6 (some 124) (.slice ad' (n+1) cap')) _
 rw [← Ha7.out]
 have e124:a7.eval (.tmp 124)=.slice ad' (n+1) cap':=by rw [Ha7.out]; exact Act.eval_put_same _ _ _ z6
 refine wpAnyH_take (i:=7) (oi:={ dst:=some 7,op:=Op.assign (Operand.tmp 124),type:=55,pos:= "world.go:175",after:=#[{ on:=6,ground:=Ground.data },{ on:=6,ground:=Ground.chain },{ on:=0,ground:=Ground.phase },{ on:=1,ground:=Ground.phase },{ on:=2,ground:=Ground.phase },{ on:=3,ground:=Ground.phase },{ on:=4,ground:=Ground.phase },{ on:=5,ground:=Ground.phase },{ on:=6,ground:=Ground.phase }],guard:=none }) (v:=.slice ad' (n+1) cap') rfl (by kernel_rfl) (by kernel_rfl) (by kernel_rfl) (fun c a w h=>HQp.out c _ _ a w h) (Or.inl ⟨by rfl,?_⟩) hHeld ?_
 ·intro w hSw
  have e0:=eval_form e124
  go_simp
 change wpAnyH _ _ _ _ _ _ _ (Act.put a7 (some 7) (.slice ad' (n+1) cap')) _
 refine wpAnyH_done (by kernel_rfl) ?_ _
 refine HQ.out _ ad' cap' w3 hown3 (by rw [HW2.out]; exact hg3) (by rw [HW2.out]; exact hat3) ?_
 rw [Ha7.out,Ha6.out,Ha5.out,Ha4.out,Ha3.out,Ha2.out,Ha1.out]
end Go.Proofs.YtaehdgemkafinaaGreatDoor
