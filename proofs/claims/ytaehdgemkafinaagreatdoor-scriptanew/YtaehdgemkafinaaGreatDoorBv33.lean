/-
  On the way to SAnewProof: VT VU VW LA.
-/
import Derived.Test.YtaehdgemkafinaaGreatDoorBv32
import Derived.Test.YtaehdgemkafinaaGreatDoorBv18
import Derived.Great.Frames
set_option maxHeartbeats 8000000
set_option maxRecDepth 100000
namespace Go.Proofs.YtaehdgemkafinaaGreatDoor
open Go.RowKit
section
variable {w0 w w':World} {C C':Nat→Nat} {K:NB} {X:XB} {i m m':Nat} {zs:List Int} {N:PN} {V V':PX} {A:Nat→Addr}
def wakeN (N:PN):PN:={ N with l:=-1,over:=false,R:=fun _=>false }
theorem NI.wake {n:Nat} (h:NI n N m) (hl:N.l=-2):NI n (wakeN N) m :=
 ⟨h.gd,h.nm,h.sz,fun _=>rfl,by show (-2:Int)≤-1; omega,by show (-1:Int)≤_; omega,fun d x hx=>by have:=(h.ld d x hx).1; exact (this hl).elim⟩
theorem WD.wake {w1 w2:World} {s' j' mb':Nat} (h:WD w0 w C X zs V m) (hi:i<zs.length) (hl:(V.nd i).l=-2) (hp:Pl w1 (X.K i).p (X.K i).q (V.nd i).B (-1)) (hk:Kept (In2 (X.K i).p (X.K i).q) w w1) (hj:JR w2 j' (X.K i).p (dealL (V.nd i).B.data.toList) false) (hs:SR w2 s' j' mb' i (fun _=>false) 0) (hb:Below w1.heap.size w1 w2) (hj0:w1.heap.size≤j') (hjm:j'<mb') (hms:mb'<s') :
  ∃ C' X',WD w0 (w2.setCell ⟨(X.K i).nd,0,none⟩ (.pointer (some ⟨s',0,none⟩))) C' X' zs (setNd V i (wakeN (V.nd i))) m∧key X'=key X∧Kept (OwnX C) w (w2.setCell ⟨(X.K i).nd,0,none⟩ (.pointer (some ⟨s',0,none⟩)))∧(∀ x,x<w.heap.size→C' x=C x)∧X'.K i={ X.K i with s:=s',j:=j',mb:=mb' }:=by
 have n7:=h.n7.2
 have hN:=h.nds i hi
 have e1:=hN.cs; have e2:=hN.cj; have e3:=hN.cm; have e4:=hN.cp; have e5:=hN.cq; have e6:=hN.cn
 have hsz:=hk.size
 have hslt:=hs.lts
 obtain ⟨l1,l2,l3,l4,l5⟩:=hN.sp.lts
 have lnd:=row_ltJ hN.row
 have hw0:=h.bel.size
 obtain ⟨C1,hC1⟩:∃ C1,C1=paint (paint (paint C s' (100 * i+2)) j' (100 * i+3)) mb' (100 * i+4):=⟨_,rfl⟩
 have hC:∀ x,x<w.heap.size→C1 x=C x:=fun x hx=>by rw [hC1,paint_ne (by omega),paint_ne (by omega),paint_ne (by omega)]
 have q1:C1 s'=100 * i+2:=by rw [hC1,paint_ne (by omega),paint_ne (by omega),paint_at]
 have q2:C1 j'=100 * i+3:=by rw [hC1,paint_ne (by omega),paint_at]
 have q3:C1 mb'=100 * i+4:=by rw [hC1,paint_at]
 have hbel1:Below w0.heap.size w0 w1:=hk.below hw0 (fun x hx=>by rcases hx with rfl|rfl; exact h.low _ (by omega); exact h.low _ (by omega)) h.bel
 have hsp:=sp_new (w0:=w0) hbel1 hp (h.low _ (by omega)) (h.low _ (by omega)) hj hs hb hj0 hjm hms (by decide) (by decide) hN.sp.jp.sz hN.sp.jp.s6
 have hkk:Kept (In2 (X.K i).p (X.K i).q) w w2:=hk.trans (Kept.of_below hb)
 have hset:Kept (In1 (X.K i).nd) w2 (w2.setCell ⟨(X.K i).nd,0,none⟩ (.pointer (some ⟨s',0,none⟩))):=(Kept.refl _ w2).set1 0 _
 have nnd:∀ x,C1 x≠100 * i+1→¬ In1 (X.K i).nd x:=fun x g hx=>by rw [show x=(X.K i).nd from hx,hC _ lnd] at g; exact g e6
 have hK3:Kept (fun x=>C x / 100=i) w (w2.setCell ⟨(X.K i).nd,0,none⟩ (.pointer (some ⟨s',0,none⟩))):=(hkk.mono hN.in2).setCell (show C (X.K i).nd / 100=i by omega) _
 have hrow:w2.heap[(X.K i).nd]? = some (.cells (ndC (X.K i) (V.nd i)).toArray 152 (0,0)):=hkk.row hN.row (fun e=>by rcases e with e|e; (rw [e] at e6; omega); (rw [e] at e6; omega))
 have hno:∀ d,(V.nd i).ld d=none:=fun d=>by
  cases hd:(V.nd i).ld d with
  | none=>rfl
  | some x=>exact (((h.inv.nd i hi).ld d x hd).1 hl).elim
 have hND:ND w0 (w2.setCell ⟨(X.K i).nd,0,none⟩ (.pointer (some ⟨s',0,none⟩))) C1 { X.K i with s:=s',j:=j',mb:=mb' } i zs (wakeN (V.nd i)) m:=by
  refine ⟨?_,?_,fun d hd x hx=>?_,(hC _ lnd).trans e6,q1,q2,q3,(hC _ l4).trans e4,(hC _ l5).trans e5,fun d hd x hx=>?_,hN.n0⟩
  ·show (w2.setCell ⟨(X.K i).nd,0,none⟩ (.pointer (some ⟨s',0,none⟩))).heap[(X.K i).nd]? = _
   rw [heap_setCell_same w2 (X.K i).nd 0 _ _ _ hrow]; rfl
  ·have:=(hsp.mono (Nat.zero_le m)).far hset (fun x hx=>by rw [show x=_ from hx]; exact hN.n0) (fun x hx=>nnd x (by rcases hx with rfl|rfl|rfl; omega; (rw [hC _ l4]; omega); (rw [hC _ l5]; omega))) (nnd _ (by omega)) (nnd _ (by omega))
   exact this
  ·have hx':(V.nd i).ld d=some x:=hx
   rw [hno d] at hx'; cases hx'
  ·have hx':(V.nd i).ld d=some x:=hx
   rw [hno d] at hx'; cases hx'
 refine ⟨C1,_,h.node hK3 hi (fun x hx=>hx) hC (fun x hx hc=>?_) hND rfl (Nat.le_refl _) (h.inv.node ((h.inv.nd i hi).wake hl) (Nat.le_refl _)),key_K rfl,hK3.mono (fun x hx=>by show C x<2000; omega),hC,?_⟩
 ·rw [show (w2.setCell ⟨(X.K i).nd,0,none⟩ (.pointer (some ⟨s',0,none⟩))).heap.size=w2.heap.size by simp]
  by_cases g1:x=s'
  ·rw [g1]; exact hslt.1
  ·by_cases g2:x=j'
   ·rw [g2]; omega
   ·by_cases g3:x=mb'
    ·rw [g3]; omega
    ·rw [hC1,paint_ne g3,paint_ne g2,paint_ne g1] at hc
     have:=h.lt x hc
     omega
 ·simp
def cWake (n:Nat) (V:PX) (s:Int):Nat:=if 0≤s∧s<n then (if upN (V.nd s.toNat)=true then 8 else 0) else 2
theorem setNd_st {d:Nat}:stN ((setNd V i (wakeN (V.nd i))).nd i) d=stN (V.nd i) d:=by
 unfold setNd
 simp only [if_true]
 rfl
theorem wake_any (s:Int) (c:Nat) (h:WD w0 w C X zs V m) (hE:Held9 w0 A) (hc:cWake zs.length V s=c) :
  Calls Tryz.prog 58 #[.pointer (some ⟨X.xb,0,none⟩),.int .i64 s] w fun e w'=>e=.returned (ev A c)∧WOut w0 w w' C X zs (if c=0 then upX V s.toNat else V) (m+1):=by
 have H:=hid h
 have HE:=hid hE
 have HE1:=hid (h.held hE)
 have n7:=h.n7
 clear h hE
 subst hc
 by_cases hs:0≤s∧s<zs.length
 ·obtain ⟨k,rfl⟩:=Int.eq_ofNat_of_zero_le hs.1
  have hk:k<zs.length:=by omega
  have HK:=hid hk
  obtain ⟨b,HB⟩:∃ b,Hid (((V.nd k).l != -2)=b):=⟨_,rfl⟩
  have HU:Hid (upN (V.nd k)=b):=HB.out
  obtain ⟨c0,c1,c2⟩:=(H.out.nds k hk).way
  cases b with
  | true =>
   have e:cWake zs.length V k=8:=by unfold cWake; rw [if_pos hs,Int.toNat_natCast,HU.out,if_pos rfl]
   rw [e]
   clear e hs hk
   have g7:w.cell? ⟨7,0,none⟩=some (.iface 318 (.pointer (some (A 7)))):=HE1.out.var 7 (by decide)
   go_enter Tryz.func58,Tryz.ntmps58
   go_wp2_with fail
   refine (find_ok k H.out HK.out).mono ?_
   rintro e w1 ⟨rfl,hx⟩
   subst w1
   go_wp2_with fail
   refine (power_b _ _ _ _ true w (H.out.nds k HK.out).sp.jp.pl HB.out).mono ?_
   rintro e w1 ⟨rfl,hx⟩
   subst w1
   go_wp2_with fail
   go_ret
   exact ⟨rfl,H.out.out (Below.refl _ _) (Nat.le_succ _)⟩
  | false =>
   have e:cWake zs.length V k=0:=by unfold cWake; rw [if_pos hs,Int.toNat_natCast,HU.out,if_neg (by decide)]
   rw [e]
   clear e hs hk
   have HL:Hid ((V.nd k).l=-2):=by have:=HB.out; show (V.nd k).l=-2; simpa using this
   have HNS:=hid (H.out.nds k HK.out)
   have HSZ:=hid (H.out.inv.nd k HK.out).sz
   go_enter Tryz.func58,Tryz.ntmps58
   go_wp2_with fail
   refine (find_ok k H.out HK.out).mono ?_
   rintro e w1 ⟨rfl,hx⟩
   subst w1
   go_wp2_with fail
   refine (power_b _ _ _ _ false w HNS.out.sp.jp.pl HB.out).mono ?_
   rintro e w1 ⟨rfl,hx⟩
   subst w1
   go_wp2_with fail
   refine (pon_any _ _ _ _ w HNS.out.sp.jp.pl).mono ?_
   rintro e w1 ⟨rfl,hp,hk1⟩
   have HP:=hid hp
   have HK1:=hid hk1
   obtain ⟨c0',c1',c2'⟩:=(HNS.out.power hk1 hp (by decide) (by decide)).way
   have HE2:=hid (HE.out.later (hk1.below H.out.bel.size (fun x hx=>H.out.low _ (by have:=HNS.out.in2 x hx; have:=HK.out; omega)) H.out.bel))
   clear hp hk1
   go_wp2_with fail
   refine (snew_ok A (k:Int) _ _ _ (-1) w1 HP.out HE2.out.toE (by rw [HSZ.out]; decide) (by rw [HSZ.out]; decide) (by decide) (by omega) (by have:=HK.out; omega)).mono ?_
   rintro e w2 ⟨s',j',mb',rfl,hj,hs2,hb2,hj0,hjm,hms⟩
   obtain ⟨C3,X3,q1,q2,q3,q4,q5⟩:=H.out.wake HK.out HL.out HP.out HK1.out hj hs2 hb2 hj0 hjm hms
   obtain ⟨W3,HW3⟩:∃ W3,Hid (w2.setCell ⟨(X.K k).nd,0,none⟩ (.pointer (some ⟨s',0,none⟩))=W3):=⟨_,rfl⟩
   have hW3:=HW3.out
   have HKW:Hid (Kept (In2 (X.K k).p (X.K k).q) w w2):=HK1.out.trans (Kept.of_below hb2)
   have hrow2:=HKW.out.row HNS.out.row (fun e=>by have e6:=HNS.out.cn; have e4:=HNS.out.cp; have e5:=HNS.out.cq; rcases e with e|e; (rw [e] at e6; omega); (rw [e] at e6; omega))
   have d0:w2.cell? ⟨(X.K k).nd,0,none⟩=some (.pointer (some ⟨(X.K k).s,0,none⟩)):=by rw [cell_of_row _ _ _ _ _ _ hrow2]; rfl
   have z0:=frozen_of_row w2 (X.K k).nd 0 _ _ hrow2
   rw [hW3] at q1 q3
   have HQ:=hid (And.intro q1 (And.intro q2 (And.intro q3 q4)))
   -- the site ahead,as it was
   have HJo:Hid (JR W3 (X.K k).j (X.K k).p (dlN (V.nd k)) (V.nd k).over):=by
    rw [← HW3.out]
    show (w2.setCell _ _).heap[(X.K k).j]? = _
    rw [heap_setCell_other _ _ _ _ (by show (X.K k).j≠(X.K k).nd; intro e; have e6:=HNS.out.cn; have e2:=HNS.out.cj; rw [e] at e2; omega)]
    exact HKW.out.row HNS.out.sp.jp.jr (fun e=>by have e2:=HNS.out.cj; have e4:=HNS.out.cp; have e5:=HNS.out.cq; rcases e with e|e; (rw [e] at e2; omega); (rw [e] at e2; omega))
   have HSo:Hid (SR W3 (X.K k).s (X.K k).j (X.K k).mb k (V.nd k).R m):=by
    have e1:=HNS.out.cs; have e3:=HNS.out.cm; have e4:=HNS.out.cp; have e5:=HNS.out.cq; have e6:=HNS.out.cn
    have hk3:Kept (fun x=>x=(X.K k).nd ∨ In2 (X.K k).p (X.K k).q x) w W3:=by rw [← HW3.out]; exact (HKW.out.mono (fun x hx=>.inr hx)).setCell (.inl rfl) _
    refine HNS.out.sp.sr.kept hk3 (fun e=>?_) (fun e=>?_)
    ·rcases e with e|e|e
     ·rw [e] at e1; omega
     ·rw [e] at e1; omega
     ·rw [e] at e1; omega
    ·rcases e with e|e|e
     ·rw [e] at e3; omega
     ·rw [e] at e3; omega
     ·rw [e] at e3; omega
   clear q1 q2 q3 q4 q5 hj hs2 hb2 hj0 hjm hms hrow2
   go_wp2_with fail
   go_loopw [79] (fun v wr=>∃ q:Nat,q≤6∧v=.int .i64 (q:Int)∧Below W3.heap.size W3 wr) (fun v _=>6 - (intOf v).toNat)
   case atStart=>exact ⟨0,Nat.zero_le _,rfl,Below.refl _ _⟩
   case round =>
    obtain ⟨q,hq,rfl,hb⟩:=hrel
    have HBr:=hid hb
    have Hr:=hid (HQ.out.1.later hb)
    have HJr:=hid (HJo.out.later hb HJo.out.lt)
    have HSr:=hid (HSo.out.later hb)
    clear hb
    by_cases hlt:q<6
    ·obtain ⟨⟨was,t2,t3⟩,HST⟩:∃ x,Hid ((dlN (V.nd k) q).2=x):=⟨_,rfl⟩
     have HS5:Hid (stN ((setNd V k (wakeN (V.nd k))).nd k) q=⟨was,t2,t3⟩):=setNd_st.trans HST.out
     have hph:∀ w,(Instr.field 80 (.agg #[.int .i64 (was:Int),.int .i64 (t2:Int),.int .i64 (t3:Int)]) 0).run Tryz.prog w=.ok (.int .i64 (was:Int)) w:=fun w=>phase_of _ _ _ w
     go_wp2_with fail
     refine (known_ag q was t2 t3 HJr.out HSr.out hlt HST.out).mono ?_
     rintro e w5 ⟨rfl,hb5⟩
     have HB5:=hid (HBr.out.trans (hb5.mono HBr.out.size))
     have HNo:=hid (note_not k q was was t2 t3 (Hr.out.later hb5) HK.out hlt HS5.out (fun h=>h.1 rfl))
     rw [key_xb HQ.out.2.1] at HNo
     clear hb5
     go_wp2_with fail
     refine HNo.out.mono ?_
     rintro e w6 ⟨rfl,hb6⟩
     have HB6:=hid (HB5.out.trans (hb6.mono HB5.out.size))
     clear hb6
     go_wp2_with fail
     go_roundw
     case rel=>exact ⟨q+1,by omega,by go_num,HB6.out⟩
     case measure=>simp [intOf]; omega
    ·obtain rfl:q=6:=by omega
     go_wp2_with fail
     go_ret
     refine ⟨rfl,?_⟩
     exact ⟨_,_,Hr.out.mono (Nat.le_succ _),HQ.out.2.1,HQ.out.2.2.1.trans (Kept.of_below HBr.out),HQ.out.2.2.2⟩
 ·have e:cWake zs.length V s=2:=by unfold cWake; rw [if_neg hs]
  rw [e]
  have HS:=hid hs
  clear e hs
  go_enter Tryz.func58,Tryz.ntmps58
  go_wp2_with fail
  refine (find_no s H.out HE.out HS.out).mono ?_
  rintro e w1 ⟨rfl,hb⟩
  have HB1:=hid hb
  clear hb
  go_wp2_with fail
  go_ret
  exact ⟨rfl,H.out.out HB1.out (Nat.le_succ _)⟩
end
theorem step_append_fr1F {w:World} {ops:Array Oper} {o:Oper} {a:Act} {K:Act→World→Prop} {Q:Exit→Act→World→Prop} {E:Prop} (hgd:o.guard=none) (s x:Operand)
  (ho:o.op=.call { callee:=.builtin .append,args:=#[s,x],argTypes:=#[55,55] })
  (base n:Nat) (v:Value) (M:List F9) (b off c:Nat) (F:F9) (hM:M.length=n) (hs:a.eval s=v) (hx:a.eval x=.slice (some ⟨b,off,none⟩) 1 c) (hown:OwnF w base v M) (hu:∀ j u,(f9L F)[j]? = some u→w.cell? ((⟨b,off,none⟩:Addr).add j)=some u) (hn:n<1000000000000) (hb:base≤w.heap.size)
  (h:∀ ad' cap' w',OwnF w' base (.slice ad' (n+1) cap') (M ++ [F])→w.grownBy w' v.ownBlock→((Value.slice ad' (n+1) cap').ownBlock=v.ownBlock ∨ (Value.slice ad' (n+1) cap').ownBlock=some w.heap.size)→K (a.put o.dst (.slice ad' (n+1) cap')) w') :
  if Region.wanted o (yielded ops a.tmps)=true then Oper.wp Tryz.prog o a w K Q else E:=by
 have hw:Region.wanted o (yielded ops a.tmps)=true:=by simp [Region.wanted,hgd]
 rw [if_pos hw]
 have hfr:IsFr w (.slice (some ⟨b,off,none⟩) 1 c) [F]:=by
  refine ⟨_,c,rfl,fun i hi=>⟨b,off,rfl,fun j hj=>?_⟩⟩
  obtain rfl:i=0:=by simpa using hi
  have h9:(f9L F)[j]? = some ((f9L F)[j]'(by rw [f9L_length]; exact hj)):=List.getElem?_eq_getElem _
  have:=hu j _ h9
  rw [addr_add] at this
  rw [Nat.zero_mul,Nat.add_zero,this,← h9]
  rfl
 obtain ⟨v',w',hr,h2,h3,h5⟩:=run_append_frsF w o.type base v _ M [F] hown hfr (by show M.length+1≤_; omega) hb
 obtain ⟨ad',cap',rfl⟩:∃ ad' cap',v'=.slice ad' (n+1) cap':=by
  obtain ⟨ad',cap',e⟩:=h2.form
  exact ⟨ad',cap',by rw [e,List.length_append,hM]; rfl⟩
 unfold Oper.wp execOp
 simp only [ho,resolve,invoke,builtin,Sem.run_bind,Sem.run_pure,Result.andThen_ok,List.map_toArray,List.map_cons,List.map_nil,hs,hx,hr]
 exact h ad' cap' w' h2 h3 h5
section
variable {w0 w w':World} {C C':Nat→Nat} {K:NB} {X:XB} {i m m':Nat} {zs:List Int} {N:PN} {V V':PX} {A:Nat→Addr}
theorem sendX_nil:sendX V []=V:=by unfold sendX; rw [List.append_nil]
theorem sendX_app (L M:List F9):sendX (sendX V L) M=sendX V (L ++ M):=by unfold sendX; simp only [List.append_assoc]
theorem tell_step {W wr W2 w':World} {C1:Nat→Nat} {X1:XB} {s d ph pr k:Nat} {F:F9} {v':Value} (g1:WD w0 wr C1 X1 zs (sendX V (toL s d 7 pr ph k)) (m+k)) (g2:key X1=key X) (g3:Kept (OwnX C) W wr) (g4:∀ x,x<W.heap.size→C1 x=C x) (hb:Below wr.heap.size wr W2)
  (ho:OwnF w' w0.heap.size v' ((sendX V (toL s d 7 pr ph k)).fly ++ [F])) (hg:W2.grownBy w' X1.fv.ownBlock) (hw:v'.ownBlock=X1.fv.ownBlock ∨ v'.ownBlock=some W2.heap.size) (hs:s<zs.length) (hk:k<zs.length) (hn:zs.length≤7) (hd:d<6) (hp:ph≤5) (hr:pr≤1048576) (hF:F=⟨s,k,d,7,pr,false,ph,0,0⟩) :
  WOut w0 W (w'.setCell ⟨X.xb,3,none⟩ v') C X zs (sendX V (toL s d 7 pr ph (k+1))) (m+(k+1)):=by
 have hFI:∀ f,f∈[F]→FI zs.length f:=fun f hf=>by
  have hm2:f∈toL s d 7 (pr:Int) (ph:Int) (k+1):=by rw [toL,List.mem_append]; right; rw [← hF]; exact hf
  exact toL_fi hs hn hd (by decide) (by omega) (by omega) (k+1) hk f hm2
 obtain ⟨C2,h1,h2,h3⟩:=(g1.later hb).sent (L:=[F]) ho hg hw hFI (by show 1≤1000; decide)
 rw [key_xb g2] at h1 h2
 have e:sendX (sendX V (toL s d 7 pr ph k)) [F]=sendX V (toL s d 7 pr ph (k+1)):=by rw [sendX_app,hF]; rfl
 rw [e] at h1
 refine WOut.step (C1:=C1) (X1:=X1) g2 g3 g4 ?_
 refine WOut.step (C1:=C1) (X1:=X1) rfl (Kept.of_below hb) (fun _ _=>rfl) ?_
 exact ⟨C2,_,h1,(by unfold key; exact Prod.ext (key_xb g2).symm rfl),h2,h3⟩
theorem tellEnd_any (s d ph pr pa:Nat) (h:WD w0 w C X zs V m) (hs:s<zs.length) (hd:d<6) (hp:ph≤5) (hr:pr≤1048576) (hm:m<1000000) :
  Calls Tryz.prog 110 #[.pointer (some ⟨X.xb,0,none⟩),.int .i64 (s:Int),.int .i64 (d:Int),agS ph pr pa] w fun e w'=>e=.returned (.tuple #[])∧WOut w0 w w' C X zs (sendX V (toL s d 7 pr ph zs.length)) (m+7):=by
 obtain ⟨W,HW⟩:∃ W,Hid (w.alloc (.cells #[.int .i64 (ph:Int),.int .i64 (pr:Int),.int .i64 (pa:Int)] 80)=W):=⟨_,rfl⟩
 have HB:Hid (Below w.heap.size w W):=by rw [← HW.out]; exact (Below.refl _ _).alloc (Nat.le_refl _) _
 have HR:Hid (W.heap[w.heap.size]? = some (.cells #[.int .i64 (ph:Int),.int .i64 (pr:Int),.int .i64 (pa:Int)] 80 (0,0))):=by rw [← HW.out]; exact heap_alloc_new w _
 have H0:=hid h
 have H:=hid (h.later HB.out)
 obtain ⟨-,c1,-,-,-⟩:=H.out.cells
 have n7:=h.n7
 have HNW:Hid (2000≤C w.heap.size):=by
  rcases Nat.lt_or_ge (C w.heap.size) 2000 with q|q
  ·have:=h.lt _ q; omega
  ·exact q
 have HSS:=hid hs
 obtain ⟨n,hn⟩:∃ n,Hid (zs.length=n):=⟨_,rfl⟩
 rw [hn.out] at c1 n7 hs ⊢
 have hW:=HW.out
 clear h
 go_enter Tryz.func110,Tryz.ntmps110
 go_wp2_with fail
 clear c1
 go_loopw [14] (fun v wr=>∃ k:Nat,k≤n∧v=.int .i64 (k:Int)∧WOut w0 W wr C X zs (sendX V (toL s d 7 pr ph k)) (m+k)) (fun v _=>n - (intOf v).toNat)
 case atStart=>exact ⟨0,Nat.zero_le _,rfl,by show WOut w0 W W C X zs (sendX V []) m; rw [sendX_nil]; exact H.out.out (Below.refl _ _) (Nat.le_refl _)⟩
 case round =>
  obtain ⟨k,hk,rfl,C1,X1,g1,g2,g3,g4⟩:=hrel
  have HG:=hid (And.intro g1 (And.intro g2 (And.intro g3 g4)))
  have HRr:=hid (g3.row HR.out (fun e=>by have h1:=HNW.out; have h2:C w.heap.size<2000:=e; omega))
  have b0:wr.cell? ⟨w.heap.size,0,none⟩=some (.int .i64 (ph:Int)):=by rw [cell_of_row _ _ _ _ _ _ HRr.out]; rfl
  have b1:wr.cell? ⟨w.heap.size,1,none⟩=some (.int .i64 (pr:Int)):=by rw [cell_of_row _ _ _ _ _ _ HRr.out]; rfl
  obtain ⟨-,-,-,c3,-⟩:=g1.cells
  obtain ⟨nf,hnf⟩:∃ nf,Hid ((sendX V (toL s d 7 pr ph k)).fly.length=nf):=⟨_,rfl⟩
  obtain ⟨ad,cap,hv⟩:∃ ad cap,Hid (X1.fv=.slice ad nf cap):=by
   rw [← hnf.out]
   exact g1.fly.form
  have hnfb:nf<1000000000000:=by rw [← hnf.out]; have:=g1.inv.fl; omega
  rw [key_xb g2,hv.out] at c3
  have hb0:=g1.bel.size
  by_cases hlt:k<n
  ·obtain ⟨F,HF⟩:∃ F:F9,Hid (F=⟨s,k,d,7,pr,false,ph,0,0⟩):=⟨_,rfl⟩
   obtain ⟨W2,HW2⟩:∃ W2,Hid (wr.drew.alloc (.cells #[.int .i64 (s:Int),.int .i64 (k:Int),.int .i64 (d:Int),.int .i64 7,.int .i64 (pr:Int),.bool false,.int .i64 (ph:Int),.int .i64 0,.int .i64 0] 125)=W2):=⟨_,rfl⟩
   have HB2:Hid (Below wr.heap.size wr W2):=by rw [← HW2.out]; exact (Below.refl _ _).drew.alloc (Nat.le_refl _) _
   have H2:=hid (g1.later HB2.out)
   have HO:Hid (OwnF W2 w0.heap.size (.slice ad nf cap) (sendX V (toL s d 7 pr ph k)).fly):=by have:=H2.out.fly; rw [hv.out] at this; exact this
   have HLit:Hid (∀ j u,(f9L F)[j]? = some u→W2.cell? ((⟨wr.heap.size,0,none⟩:Addr).add j)=some u):=by rw [← HW2.out,HF.out]; exact lit_cellsQ wr.drew 125 (f9L ⟨s,k,d,7,pr,false,ph,0,0⟩)
   have hb2:w0.heap.size≤W2.heap.size:=H2.out.bel.size
   have HX:Hid (∀ w',W2.grownBy w' (Value.slice ad nf cap).ownBlock→w'.cell? ⟨X.xb,3,none⟩=some (.slice ad nf cap)∧w'.frozen? ⟨X.xb,3,none⟩=false):=by
    intro w' hg
    have hr:=(grown_kept hg).row H2.out.row (fun e=>by rw [← hv.out] at e; have h1:=H2.out.cf _ e; have h2:=H2.out.cx; omega)
    rw [key_xb HG.out.2.1] at hr
    exact ⟨by rw [cell_of_row _ _ _ _ _ _ hr,← hv.out]; rfl,frozen_of_row _ _ _ _ _ hr⟩
   have hW2:=HW2.out
   have e3:=cell_later HB2.out c3
   have e0:=cell_later HB2.out b0
   have e1:=cell_later HB2.out b1
   clear g1 g2 g3 g4
   go_wp2_with fail
   go_region_law ((refine step_append_fr1F (by rfl) _ _ (by rfl) w0.heap.size nf (.slice ad nf cap) (sendX V (toL s d 7 pr ph k)).fly wr.heap.size 0 1 F hnf.out (by rfl) (by rfl) (by exact HO.out) (by exact HLit.out) hnfb hb2 ?_; intro ad' cap' w' hown hg ho; obtain ⟨c3',z3'⟩:=HX.out w' hg; have HS:=hid (And.intro hown (And.intro hg ho)); clear hown hg ho))
   all_goals go_wp2_with fail
   all_goals go_roundw
   all_goals first|(simp [intOf]; omega)|skip
   all_goals refine ⟨k+1,by omega,by go_num,?_⟩
   all_goals rw [← hv.out] at HS
   all_goals rw [← hnf.out] at HS ⊢
   all_goals exact tell_step HG.out.1 HG.out.2.1 HG.out.2.2.1 HG.out.2.2.2 HB2.out HS.out.1 HS.out.2.1 HS.out.2.2 HSS.out (by rw [hn.out]; exact hlt) (by rw [hn.out]; exact n7.2) hd hp hr HF.out
  ·obtain rfl:k=n:=by omega
   clear g1 g2 g3 g4
   go_wp2_with fail
   go_end0
   refine ⟨rfl,?_⟩
   exact ⟨C1,X1,HG.out.1.mono (by omega),HG.out.2.1,(Kept.of_below HB.out).trans HG.out.2.2.1,fun x hx=>HG.out.2.2.2 x (Nat.lt_of_lt_of_le hx HB.out.size)⟩
end
section
variable {w0 w w':World} {C C':Nat→Nat} {K:NB} {X:XB} {i m m':Nat} {zs:List Int} {N:PN} {V V':PX} {A:Nat→Addr}
theorem wrap64_inV (n:Int) (h:-9223372036854775808≤n∧n≤9223372036854775807):wrap64 n=n:=by unfold wrap64; omega
theorem seen_is (d p:Nat) (h:ND w0 w C K i zs N m) (hd:d<6) (hp:(stN N d).pr=p) :
  Calls Tryz.prog 163 #[.pointer (some ⟨K.nd,0,none⟩),.int .i64 (d:Int),.int .i64 (p:Int)] w fun e w'=>e=.returned (.int .i64 (aboveN N d))∧w'=w:=by
 have c1:=h.lead hd
 cases hl:N.ld d with
 | none =>
  rw [ldV_none hl] at c1
  have e:aboveN N d=(p:Int):=by unfold aboveN; rw [hl,hp]
  rw [e]
  clear h e hl
  go_enter Tryz.func163,Tryz.ntmps163
  go_wp2_with fail
  go_ret
  exact ⟨rfl,rfl⟩
 | some x =>
  rw [ldV_some hl] at c1
  have e:aboveN N d=max (p:Int) x.2.seen:=by unfold aboveN; rw [hl,hp]
  rw [e]
  have HL:=hid (h.lds d hd x hl)
  clear h e hl
  go_enter Tryz.func163,Tryz.ntmps163
  go_wp2_with fail
  refine (ldSeen_any HL.out).mono ?_
  rintro e w1 ⟨rfl,hx⟩
  subst w1
  go_wp2_with fail
  go_ret
  exact ⟨rfl,rfl⟩
theorem attempt_is (s:Nat) (a:Int) (h:WD w0 w C X zs V m) (hs:s<zs.length) (h0:0≤a) (h1:a≤1048576) :
  Calls Tryz.prog 162 #[.pointer (some ⟨X.xb,0,none⟩),.int .i64 (s:Int),.int .i64 a] w fun e w'=>e=.returned (.int .i64 (attemptX zs.length s a))∧w'=w:=by
 obtain ⟨-,c1,-,-,-⟩:=h.cells
 have n7:=h.n7
 obtain ⟨n,hn⟩:∃ n,zs.length=n:=⟨_,rfl⟩
 rw [hn] at c1 n7 hs ⊢
 clear h hn
 go_enter Tryz.func162,Tryz.ntmps162
 go_wp2_with fail
 go_ret
 refine ⟨?_,rfl⟩
 have hp:(0:Int)<n:=by omega
 have r0:=Int.emod_nonneg (a+1) (show (n:Int)≠0 by omega)
 have r1:=Int.emod_lt_of_pos (a+1) hp
 have e1:wrap64 ((s:Int)+n - (a+1) % n)=(s:Int)+n - (a+1) % n:=wrap64_inV _ (by omega)
 have e2:((s:Int)+n - (a+1) % n).tmod n=((s:Int)+n - (a+1) % n) % n:=Int.tmod_eq_emod_of_nonneg (by omega)
 have q0:=Int.emod_nonneg ((s:Int)+n - (a+1) % n) (show (n:Int)≠0 by omega)
 have q1:=Int.emod_lt_of_pos ((s:Int)+n - (a+1) % n) hp
 have e3:wrap64 (a+1+(wrap64 ((s:Int)+n - (a+1) % n)).tmod n)=attemptX n s a:=by
  rw [e1,e2,wrap64_inV _ (by omega)]
  rfl
 show Ending.returned (Value.int IntKind.i64 (wrap64 (a+1+(wrap64 ((s:Int)+n - (a+1) % n)).tmod n)))=_
 rw [e3]
theorem attemptX_bd (n s:Nat) (a:Int) (hn:0<n):a+1≤attemptX n s a∧attemptX n s a≤a+n:=by
 unfold attemptX
 have hp:(0:Int)<n:=by omega
 have q0:=Int.emod_nonneg ((s:Int)+n - (a+1) % n) (show (n:Int)≠0 by omega)
 have q1:=Int.emod_lt_of_pos ((s:Int)+n - (a+1) % n) hp
 omega
end
theorem ldTry_far (A:Nat→Addr) (v:Value) (zs:List Int) (id:Nat) (deal att:Int) (w:World) (hv:IsSl w v zs) (hE:Held3 w A) (he:errW zs=0) (hid':id<zs.length) (h0:0≤deal) (h1:deal<6) (a1:1048576<att) :
  Calls Tryz.prog 164 #[.int .i64 (id:Int),.int .i64 deal,v,.int .i64 att] w fun e w'=>e=.returned (.tuple #[.pointer none,.iface 318 (.pointer (some (A 1)))])∧Below w.heap.size w w':=by
 have HC:=hid (ldbegin_ok A v zs id deal att w hv hE he hid' h0 h1)
 have g1:w.cell? ⟨0,0,none⟩=some (.iface 318 (.pointer (some (A 1)))):=hE 1 (by omega) (by omega)
 obtain ⟨a,cap0,rfl,-,-,-⟩:=hv
 have g2:¬ att<1:=by omega
 clear hE he
 go_enter Tryz.func164,Tryz.ntmps164
 go_wp2_with fail
 refine HC.out.mono ?_
 rintro e w1 ⟨lb,b,cap,rfl,hl,hb,hg⟩
 have HB:=hid hb
 have g1':=cell_later hb g1
 clear hl hb hg
 go_wp2_with fail
 go_quiet (fail)
 go_wp2
 go_ret2
 exact ⟨rfl,below_drewN HB.out _⟩
theorem eval_form {a:Act} {i:Nat} {v:Value} (h:a.eval (.tmp i)=v):a.tmps[i]?.getD undef=v:=by
 unfold Act.eval at h
 simpa using h
end Go.Proofs.YtaehdgemkafinaaGreatDoor
