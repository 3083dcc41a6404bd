/-
  On the way to SPlaysProof: L9.
-/
import Derived.Test.YtaehdgemkafinaaGreatDoorBw25
set_option maxHeartbeats 8000000
set_option maxRecDepth 100000
namespace Go.Proofs.YtaehdgemkafinaaGreatDoor
open Go.RowKit
def InH (lb:Nat) (vh:Value) (k:Nat):Prop:=k=lb ∨ vh.ownBlock=some k
def yesR (zs:List Int) (id:Nat) (deal att:Int) (st:ByteArray) (k:Int) (hs:List F9) (ph:Int):List F9×ByteArray×Int×List F9×Int :=
 if k=2 then (if hs.length=zs.length then (sentL id deal 5 att 4 true zs.length,stB 1,6,[],4) else ([],st,k,hs,ph))
 else if enoughB zs (setTo hs zs.length)=false then ([],st,k,hs,ph)
 else if k=6 then (sentL id deal 7 att (afterI ph) true zs.length,stB 2,0,hs,ph)
 else if (refL (toldTo hs zs.length)).2=true then (sentL id deal 7 att (refL (toldTo hs zs.length)).1 true zs.length,stB 2,0,hs,ph)
 else (sentL id deal 5 att (refL (toldTo hs zs.length)).1 true zs.length,stB 1,6,[],(refL (toldTo hs zs.length)).1)
structure HY (w W:World) (lb id n cap:Nat) (deal att:Int) (aw:Option Addr) (st:ByteArray) (k:Int) (vh v7:Value) (hs':List F9) (ph sn:Int) (f:Nat) (p1 p2 p3:Int):Prop where
 row:W.heap[lb]? = some (.cells (rlC id deal att (.slice aw n cap) st k vh ph sn) 121 (0,0))
 own:W.ownsRow (lb+1) 125 9 v7 hs'.length (frCells hs')
 fr:FIn w W f id deal k att true p1 p2 p3
 kp:Kept (InH lb vh) w W
 nb:∀ g,v7.ownBlock=some g→vh.ownBlock=some g ∨ w.heap.size≤g
theorem HY.made {w X W2 w5:World} {lb id n cap:Nat} {deal att:Int} {aw:Option Addr} {st:ByteArray} {k:Int} {vh v7:Value} {hs hs':List F9} {ph sn:Int} {f:Nat} {p1 p2 p3:Int} (h:HL w X lb id n cap deal att aw st k vh hs ph sn f k true p1 p2 p3) (hb:Below X.heap.size X W2)
  (ho:w5.ownsRow (lb+1) 125 9 v7 hs'.length (frCells hs')) (hg:W2.grownBy w5 vh.ownBlock) (hat:v7.ownBlock=vh.ownBlock ∨ v7.ownBlock=some W2.heap.size) (how:w.ownsRow (lb+1) 125 9 vh hs.length (frCells hs)) :
  HY w w5 lb id n cap deal att aw st k vh v7 hs' ph sn f p1 p2 p3:=by
 have h2:=h.later hb
 have hsz:X.heap.size≤W2.heap.size:=hb.size
 have hlt:=how.lt
 have keep:∀ i,i<W2.heap.size→vh.ownBlock≠some i→w5.heap[i]? = W2.heap[i]?:=fun i hi hne=>hg.block i hi (fun e=>hne e.symm)
 refine ⟨?_,ho,⟨?_⟩,?_,?_⟩
 ·rw [keep lb (row_ltJ h2.ld.row) (fun e=>by have:=(hlt lb e).1; omega)]; exact h2.ld.row
 ·rw [keep w.heap.size (row_ltJ h2.fr.row) (fun e=>by have:=(hlt _ e).2; omega)]; exact h2.fr.row
 ·have k1:Kept (InH lb vh) w W2:=h2.kp.mono (fun i e=>.inl e)
  exact k1.trans ⟨hg.os,hg.tape,hg.output,hg.size,fun i hi hn=>keep i hi (fun e=>hn (.inr e))⟩
 ·intro g hgg
  rcases hat with q|q
  ·exact .inl (q ▸ hgg)
  ·rw [q] at hgg
   have e:W2.heap.size=g:=by simpa using hgg
   have:=h.kp.size
   exact .inr (by omega)
theorem snoc_cells {hs hs':List F9} {x:F9} (h:hs ++ [x]=hs'):hs'.length=hs.length+1∧frCells hs'=frCells hs ++ f9L x:=by
 subst h
 exact ⟨by simp,by rw [frCells_append]; rfl⟩
structure HZ (w W:World) (lb id n cap:Nat) (deal att:Int) (aw:Option Addr) (st:ByteArray) (k:Int) (vh v7:Value) (hs':List F9) (ph sn:Int) (f:Nat) (p1 p2 p3:Int):Prop where
 ld:RLd W lb id n cap deal att aw st k v7 hs' ph sn
 fr:FIn w W f id deal k att true p1 p2 p3
 kp:Kept (InH lb vh) w W
 nb:∀ g,v7.ownBlock=some g→vh.ownBlock=some g ∨ w.heap.size≤g
theorem HZ.later {w W V:World} {lb id n cap:Nat} {deal att:Int} {aw:Option Addr} {st:ByteArray} {k:Int} {vh v7:Value} {hs':List F9} {ph sn:Int} {f:Nat} {p1 p2 p3:Int} (h:HZ w W lb id n cap deal att aw st k vh v7 hs' ph sn f p1 p2 p3) (hb:Below W.heap.size W V):HZ w V lb id n cap deal att aw st k vh v7 hs' ph sn f p1 p2 p3 :=
 ⟨h.ld.later hb,h.fr.later hb,h.kp.trans (Kept.of_below hb),h.nb⟩
theorem HY.stored {w W:World} {lb id n cap:Nat} {deal att:Int} {aw:Option Addr} {st:ByteArray} {k:Int} {vh v7:Value} {hs':List F9} {ph sn:Int} {f:Nat} {p1 p2 p3:Int} (h:HY w W lb id n cap deal att aw st k vh v7 hs' ph sn f p1 p2 p3) (hlb:lb<w.heap.size):HZ w (W.setCell ⟨lb,6,none⟩ v7) lb id n cap deal att aw st k vh v7 hs' ph sn f p1 p2 p3:=by
 have hk:Kept (In1 lb) W (W.setCell ⟨lb,6,none⟩ v7):=(Kept.refl _ W).set1 6 v7
 refine ⟨⟨?_,?_⟩,⟨hk.row h.fr.row (fun e=>by have:w.heap.size=lb:=e; omega)⟩,h.kp.trans (hk.mono fun x hx=>.inl hx),h.nb⟩
 ·rw [heap_setCell_same W lb 6 _ _ _ h.row]; rfl
 ·refine ⟨h.own.1,?_⟩
  rcases h.own.2 with hn|⟨g,cp,cur,rfl,hb',hgg,rest⟩
  ·exact .inl hn
  ·exact .inr ⟨g,cp,cur,rfl,hb',hk.row hgg (fun e=>by have:g=lb:=e; omega),rest⟩
section
variable {w:World} {lb id n cap:Nat} {deal att:Int} {st:ByteArray} {vh:Value} {hs:List F9} {ph seen:Int}
theorem rlhear_yes (vb vo:Nat) (zs:List Int) (f:Nat) (k:Int) (p1 p2 p3 sn:Int) (R:List F9×ByteArray×Int×List F9×Int) (hs':List F9) (hhs:hs ++ [⟨f,id,deal,k,att,true,p1,p2,p3⟩]=hs') (h:RLd w lb id n cap deal att (some ⟨vb,vo,none⟩) st k vh hs ph seen) (hl:hs.length≤60) (hk:k=2 ∨ k=4 ∨ k=6) (hf:f<n) (hx:fromL hs f=none) (hzn:zs.length=n) (he:errW zs=0)
  (hvc:∀ i,i<zs.length→w.cell? ⟨vb,vo+i,none⟩=some (.int .i64 (zs.getD i 0))) (hvl:vb≠lb) (hvh:vh.ownBlock≠some vb) (hsn:(if k≠2∧seen<p2 then p2 else seen)=sn)
  (hR:yesR zs id deal att st k hs' ph=R) :
  Calls Tryz.prog 88 #[.pointer (some ⟨lb,0,none⟩),frV f id deal k att true p1 p2 p3] w fun e w'=>∃ v vh',e=.returned v∧IsFr w' v R.1∧RLd w' lb id n cap deal att (some ⟨vb,vo,none⟩) R.2.1 R.2.2.1 vh' R.2.2.2.1 R.2.2.2.2 sn∧Kept (InH lb vh) w w'∧∀ g,vh'.ownBlock=some g→vh.ownBlock=some g ∨ w.heap.size≤g:=by
 have hn7:n≤7:=by rw [← hzn]; exact (errW_zero he).2.1
 have HOk:Hid (okTo zs zs.length):=(errW_zero he).2.2.1
 have HVC:=hid hvc
 have HR:=hid hR
 have HOw:=hid h.own
 have HS2:=hid (snoc_cells hhs)
 clear hvc hR hhs
 obtain ⟨W,HW⟩:∃ W,Hid (w.alloc (.cells #[.int .i64 (f:Int),.int .i64 (id:Int),.int .i64 deal,.int .i64 k,.int .i64 att,.bool true,.int .i64 p1,.int .i64 p2,.int .i64 p3] 125)=W):=⟨_,rfl⟩
 have HB:Hid (Below w.heap.size w W):=by rw [← HW.out]; exact (Below.refl _ _).alloc (Nat.le_refl _) _
 have hlbw:lb<w.heap.size:=row_ltJ h.row
 have HI:Hid (HL w W lb id n cap deal att (some ⟨vb,vo,none⟩) st k vh hs ph seen f k true p1 p2 p3):=⟨h.later HB.out,by rw [← HW.out]; exact ⟨heap_alloc_new w _⟩,Kept.of_below HB.out⟩
 obtain ⟨b0,b1,b2,b3,b4,b5,b6,b7,b8⟩:=nine HI.out.fr.row
 obtain ⟨c0,c1,c2,c3,c4,c5,c6,c7,c8⟩:=HI.out.ld.cells
 have hW:=HW.out
 have e0:(k == 0)=false:=beq_eq_false_iff_ne.2 (by omega)
 have f7:¬ (n:Int)≤(f:Int):=by omega
 have HX:=hid hx
 clear h hx
 go_enter Tryz.func88,Tryz.ntmps88
 go_wp2_with fail
 go_quiet (fail)
 have HB2:=hid (below_drewN (Below.refl W.heap.size W) nq)
 generalize W.drewN nq=V at HB2 ⊢
 have HI2:=hid (HI.out.later HB2.out)
 clear b0 b1 b2 b3 b4 b5 b6 b7 b8 c0 c1 c2 c3 c4 c5 c6 c7 c8 HI HB2 hW HW HB e0 f7
 obtain ⟨b0,b1,b2,b3,b4,b5,b6,b7,b8⟩:=nine HI2.out.fr.row
 go_wp2_with fail
 refine (rlfrom_any lb id n cap deal att (some ⟨vb,vo,none⟩) st k vh hs ph seen f _ HI2.out.ld (by omega)).mono ?_
 rw [HX.out,frO_none]
 simp only [Option.isSome]
 rintro e w1 ⟨rfl,hb1⟩
 have HI3:=hid ((HI2.out.later hb1).later ((Below.refl _ _).alloc (Nat.le_refl _) (.cells #[.int .i64 0,.int .i64 0,.int .i64 0,.int .i64 0,.int .i64 0,.bool false,.int .i64 0,.int .i64 0,.int .i64 0] 125)))
 clear hb1
 obtain ⟨X,HXw⟩:∃ X,Hid (w1.alloc (.cells #[.int .i64 0,.int .i64 0,.int .i64 0,.int .i64 0,.int .i64 0,.bool false,.int .i64 0,.int .i64 0,.int .i64 0] 125)=X):=⟨_,rfl⟩
 rw [HXw.out] at HI3
 clear b0 b1 b2 b3 b4 b5 b6 b7 b8 HI2
 obtain ⟨b0,b1,b2,b3,b4,b5,b6,b7,b8⟩:=nine HI3.out.fr.row
 obtain ⟨c0,c1,c2,c3,c4,c5,c6,c7,c8⟩:=HI3.out.ld.cells
 have z8:=HI3.out.ld.fz 8
 have HSn:=hid hsn
 clear hsn
 obtain ⟨bb,HBB⟩:∃ b:Bool,Hid (decide (k≠2∧seen<p2)=b):=⟨_,hid (Eq.refl _)⟩
 go_upto_region 13 with fail
 rw [HXw.out]
 go_cut [92] from 16 (fun s92 wx=>s92=.bool bb∧Below X.heap.size X wx)
 case first =>
  as_aux_lemma =>
   by_cases g1:k=2
   ·have hb:bb=false:=by rw [← HBB.out]; exact decide_eq_false (fun x=>x.1 g1)
    subst hb
    subst g1
    go_quiet (fail)
    go_wp2_with fail
    go_meet
    exact ⟨rfl,below_drewN (Below.refl _ _) _⟩
   ·have e1:(k != 2)=true:=bne_iff_ne.2 g1
    by_cases g2:seen<p2
    ·have hb:bb=true:=by rw [← HBB.out]; exact decide_eq_true ⟨g1,g2⟩
     subst hb
     go_quiet (fail)
     go_wp2_with fail
     go_meet
     exact ⟨rfl,below_drewN (Below.refl _ _) _⟩
    ·have hb:bb=false:=by rw [← HBB.out]; exact decide_eq_false (fun x=>g2 x.2)
     subst hb
     go_quiet (fail)
     go_wp2_with fail
     go_meet
     exact ⟨rfl,below_drewN (Below.refl _ _) _⟩
 obtain ⟨rfl,hbx⟩:=hcut
 rename_i wc
 have HI4:=hid (HI3.out.later hbx)
 clear hbx b0 b1 b2 b3 b4 b5 b6 b7 b8 c0 c1 c2 c3 c4 c5 c6 c7 c8 z8 HI3 HXw
 generalize wc=X2 at *
 obtain ⟨b0,b1,b2,b3,b4,b5,b6,b7,b8⟩:=nine HI4.out.fr.row
 obtain ⟨c0,c1,c2,c3,c4,c5,c6,c7,c8⟩:=HI4.out.ld.cells
 have z8:=HI4.out.ld.fz 8
 go_upto_if 92 with fail
 go_cut [] from 16 (fun wx=>HL w wx lb id n cap deal att (some ⟨vb,vo,none⟩) st k vh hs ph sn f k true p1 p2 p3)
 case first =>
  as_aux_lemma =>
   cases bb with
   | true =>
    have hq:=of_decide_eq_true HBB.out
    have HSe:Hid (sn=p2):=by unfold Hid; rw [← HSn.out]; exact if_pos hq
    go_wp2_with fail
    go_meet
    rw [HSe.out]
    exact HI4.out.setSeen hlbw p2
   | false =>
    have hq:=of_decide_eq_false HBB.out
    have HSe:Hid (sn=seen):=by unfold Hid; rw [← HSn.out]; exact if_neg hq
    go_wp2_with fail
    go_meet
    rw [HSe.out]
    exact HI4.out
 rename_i wc
 have HI5:=hid hcut
 clear hcut HI4 b0 b1 b2 b3 b4 b5 b6 b7 b8 c0 c1 c2 c3 c4 c5 c6 c7 c8 z8
 generalize wc=X3 at *
 obtain ⟨b0,b1,b2,b3,b4,b5,b6,b7,b8⟩:=nine HI5.out.fr.row
 obtain ⟨c0,c1,c2,c3,c4,c5,c6,c7,c8⟩:=HI5.out.ld.cells
 obtain ⟨i0,hi,hz0,hz1,hz2⟩:=info_parts Tryz.infoFr
 have hlb5:lb<X3.heap.size:=row_ltJ HI5.out.ld.row
 go_upto_if 106 with fail
 iterate 3 go_step
 go_upto_if 111 with fail
 iterate 5 go_step
 go_cut [7] from 16 (fun s7 wx=>HY w wx lb id n cap deal att (some ⟨vb,vo,none⟩) st k vh s7 hs' ph sn f p1 p2 p3)
 case first =>
  as_aux_lemma =>
   obtain ⟨W2,HW2⟩:∃ W2,Hid (X3.drew.alloc (.cells (f9L ⟨f,id,deal,k,att,true,p1,p2,p3⟩).toArray 125)=W2):=⟨_,rfl⟩
   have HB2:Hid (Below X3.heap.size X3 W2):=by rw [← HW2.out]; exact (Below.refl _ _).drew.alloc (Nat.le_refl _) _
   have HMade:Hid (∀ ad' cap' w',w'.ownsRow (lb+1) 125 9 (.slice ad' (hs.length+1) cap') (hs.length+1) (frCells hs ++ f9L ⟨f,id,deal,k,att,true,p1,p2,p3⟩)→W2.grownBy w' vh.ownBlock→((Value.slice ad' (hs.length+1) cap').ownBlock=vh.ownBlock ∨ (Value.slice ad' (hs.length+1) cap').ownBlock=some W2.heap.size)→HY w w' lb id n cap deal att (some ⟨vb,vo,none⟩) st k vh (.slice ad' (hs.length+1) cap') hs' ph sn f p1 p2 p3):=by
    intro ad' cap' w' q1 q2 q3
    exact HY.made HI5.out HB2.out (by rw [HS2.out.1,HS2.out.2]; exact q1) q2 q3 HOw.out
   refine reg14 _ X3 lb w.heap.size vh ⟨f,id,deal,k,att,true,p1,p2,p3⟩ hs.length (frCells hs) (lb+1) (by simp) rfl rfl (by unfold reg14S; exact ⟨c6,b0,b1,b2,b3,b4,b5,b6,b7,b8⟩) hlb5 (row_ltJ HI5.out.fr.row) (fun e=>by have:=(HOw.out.lt lb e).1; omega) (fun e=>by have:=(HOw.out.lt _ e).2; omega) HI5.out.ld.own (by omega) hlb5 (fun _ _ _ _ _ h=>h) ?_
   intro a' ad' cap' w' q1 q2 q3 ha'
   rw [HW2.out] at q2 q3
   have HQ5:=hid (HMade.out ad' cap' w' q1 q2 q3)
   subst ha'
   clear q1 q2 q3
   simp only [Act.put,List.setIfInBounds_toArray,List.set_cons_zero,List.set_cons_succ]
   go_wp2_with fail
   go_meet
   exact HQ5.out
 rename_i wc
 have HI6:=hid hcut
 clear hcut HI5 b0 b1 b2 b3 b4 b5 b6 b7 b8 c0 c1 c2 c3 c4 c5 c6 c7 c8
 generalize wc=X4 at *
 have c6:X4.cell? ⟨lb,6,none⟩=some vh:=by rw [cell_of_row _ _ _ _ _ _ HI6.out.row]; rfl
 have z6:=frozen_of_row X4 lb 6 _ _ HI6.out.row
 obtain ⟨ad7,cap7,hu7⟩:∃ ad cp,u7=Value.slice ad hs'.length cp:=by
  rcases HI6.out.own.2 with ⟨e,h0⟩|⟨g',cap',cur',e,-⟩
  ·exact ⟨none,0,by rw [e,h0]⟩
  ·exact ⟨_,_,e⟩
 subst hu7
 obtain ⟨X5,HX5⟩:∃ X5,Hid (X4.setCell ⟨lb,6,none⟩ (.slice ad7 hs'.length cap7)=X5):=⟨_,rfl⟩
 have HI7:Hid (HZ w X5 lb id n cap deal att (some ⟨vb,vo,none⟩) st k vh (.slice ad7 hs'.length cap7) hs' ph sn f p1 p2 p3):=by rw [← HX5.out]; exact HI6.out.stored hlbw
 have hX5:=HX5.out
 have hs61:hs'.length≤61:=by rw [HS2.out.1]; omega
 have H0:Hid (X5.ownsRow X5.heap.size 80 3 (.slice none 0 0) (toldTo hs' 0).length (stCells (toldTo hs' 0))∧Below X5.heap.size X5 X5):=⟨World.ownsRow_nil _ _ _ _,Below.refl _ _⟩
 go_wp2_with fail
 clear c6 z6
 go_loopw [8,9,10] (fun s8 s9 s10 wr=>∃ i:Nat,i≤n∧s8=.int .i64 (setTo hs' i)∧s10=.int .i64 (i:Int)∧Hid (wr.ownsRow X5.heap.size 80 3 s9 (toldTo hs' i).length (stCells (toldTo hs' i))∧Below X5.heap.size X5 wr)) (fun _ _ i _=>n - (intOf i).toNat)
 case atStart=>exact ⟨0,Nat.zero_le _,rfl,rfl,H0.out⟩
 case round =>
  obtain ⟨i,hi,rfl,rfl,HR7⟩:=hrel
  have HI8:=hid (HI7.out.later HR7.out.2)
  obtain ⟨c0,c1,c2,c3,c4,c5,c6,c7,c8⟩:=HI8.out.ld.cells
  have hbd:=setTo_bd hs' i
  by_cases hlt:i<n
  ·have hlt2:(i:Int)<(n:Int):=by omega
   have HFr:=hid (rlfrom_any lb id n cap deal att (some ⟨vb,vo,none⟩) st k (.slice ad7 hs'.length cap7) hs' ph sn (i:Int) wr HI8.out.ld (by omega))
   cases hfi:fromL hs' (i:Int) with
   | none =>
    rw [hfi,frO_none] at HFr
    have HSt:Hid (setTo hs' (i+1)=setTo hs' i∧toldTo hs' (i+1)=toldTo hs' i):=by
     constructor
     ·show (if (fromL hs' (i:Int)).isSome=true then _ else _)=_
      rw [hfi]; rfl
     ·show (match fromL hs' (i:Int) with|none=>_|some y=>_)=_
      rw [hfi]
    go_wp2_with fail
    refine HFr.out.mono ?_
    simp only [Option.isSome]
    rintro e w1 ⟨rfl,hb1⟩
    have HB1:Hid (Below wr.heap.size wr (w1.alloc (.cells #[.int .i64 0,.int .i64 0,.int .i64 0,.int .i64 0,.int .i64 0,.bool false,.int .i64 0,.int .i64 0,.int .i64 0] 125))):=hb1.alloc hb1.size _
    have HN:Hid ((w1.alloc (.cells #[.int .i64 0,.int .i64 0,.int .i64 0,.int .i64 0,.int .i64 0,.bool false,.int .i64 0,.int .i64 0,.int .i64 0] 125)).ownsRow X5.heap.size 80 3 u9 (toldTo hs' (i+1)).length (stCells (toldTo hs' (i+1)))∧Below X5.heap.size X5 (w1.alloc (.cells #[.int .i64 0,.int .i64 0,.int .i64 0,.int .i64 0,.int .i64 0,.bool false,.int .i64 0,.int .i64 0,.int .i64 0] 125))):=by
     rw [HSt.out.2]; exact ⟨own_later HR7.out.1 HB1.out (Nat.le_refl _),below_trans HR7.out.2 HB1.out⟩
    have HS1:=hid HSt.out.1
    clear hb1
    go_wp2_with fail
    go_roundw
    case rel=>exact ⟨i+1,by omega,by rw [HS1.out],by go_num,HN.out⟩
    case measure=>simp [intOf]; omega
   | some y =>
    obtain ⟨yf,yt,yd,yk,ya,yy,yh,yp,yq⟩:=y
    rw [hfi,show frO (some ⟨yf,yt,yd,yk,ya,yy,yh,yp,yq⟩)=frV yf yt yd yk ya yy yh yp yq from rfl] at HFr
    have HSt:Hid (setTo hs' (i+1)=setTo hs' i+2 ^ i∧toldTo hs' (i+1)=toldTo hs' i ++ [⟨yh,yp,yq⟩]):=by
     constructor
     ·show (if (fromL hs' (i:Int)).isSome=true then _ else _)=_
      rw [hfi]; rfl
     ·show (match fromL hs' (i:Int) with|none=>_|some y=>_)=_
      rw [hfi]
    have hp7:(2:Int) ^ i≤64:=by
     have h1:(2:Nat) ^ i≤2 ^ 6:=Nat.pow_le_pow_right (by decide) (by omega)
     have h2:((2 ^ i:Nat):Int)≤((2 ^ 6:Nat):Int):=by exact_mod_cast h1
     simpa using h2
    have hp0:(0:Int)≤2 ^ i:=by
     have:(0:Int)≤((2 ^ i:Nat):Int):=Int.natCast_nonneg _
     simpa using this
    obtain ⟨S,HSs⟩:∃ S,Hid (setTo hs' i=S):=⟨_,rfl⟩
    obtain ⟨T,HTt⟩:∃ T,Hid ((2:Int) ^ i=T):=⟨_,rfl⟩
    rw [HSs.out,HTt.out] at hbd
    rw [HTt.out] at hp7 hp0
    have hw1:IntKind.i64.wrap (S+T)=S+T:=by rw [IntKind.wrap_i64]; omega
    have HTw:=hid (two_any i)
    rw [HSs.out]
    go_wp2_with fail
    refine HFr.out.mono ?_
    simp only [Option.isSome]
    rintro e w1 ⟨rfl,hb1⟩
    obtain ⟨W2,HW2⟩:∃ W2,Hid (w1.alloc (.cells #[.int .i64 yf,.int .i64 yt,.int .i64 yd,.int .i64 yk,.int .i64 ya,.bool yy,.int .i64 yh,.int .i64 yp,.int .i64 yq] 125)=W2):=⟨_,rfl⟩
    have HB2:Hid (Below w1.heap.size w1 W2):=by rw [← HW2.out]; exact (Below.refl _ _).alloc (Nat.le_refl _) _
    have HR2:Hid (W2.heap[w1.heap.size]? = some (.cells #[.int .i64 yf,.int .i64 yt,.int .i64 yd,.int .i64 yk,.int .i64 ya,.bool yy,.int .i64 yh,.int .i64 yp,.int .i64 yq] 125 (0,0))):=by rw [← HW2.out]; exact heap_alloc_new w1 _
    obtain ⟨q0,q1,q2,q3,q4,q5,q6,q7,q8⟩:=nine HR2.out
    have hW2:=HW2.out
    have HBx:=hid (below_trans hb1 HB2.out)
    obtain ⟨W3,HW3⟩:∃ W3,Hid (W2.alloc (.cells #[.int .i64 yh,.int .i64 yp,.int .i64 yq] 80)=W3):=⟨_,rfl⟩
    have HB3:Hid (Below W2.heap.size W2 W3):=by rw [← HW3.out]; exact (Below.refl _ _).alloc (Nat.le_refl _) _
    have hs2:W2.heap.size=w1.heap.size+1:=by rw [← HW2.out]; simp
    have HSL:Hid (SL W3 (some ⟨w1.heap.size+1,0,none⟩) [⟨yh,yp,yq⟩]):=fun j hj=>by
     rw [← hs2]
     obtain rfl:j=0:=by simp at hj; omega
     have hr3:W3.heap[W2.heap.size]? = some (.cells #[.int .i64 yh,.int .i64 yp,.int .i64 yq] 80 (0,0)):=by rw [← HW3.out]; exact heap_alloc_new W2 _
     exact ⟨_,_,rfl,by rw [cell_of_row _ _ _ _ _ _ hr3]; rfl,by rw [cell_of_row _ _ _ _ _ _ hr3]; rfl,by rw [cell_of_row _ _ _ _ _ _ hr3]; rfl⟩
    have HB23:=hid (below_trans HBx.out HB3.out)
    have HO3:=hid (own_later HR7.out.1 HB23.out (Nat.le_refl _))
    have hbs:X5.heap.size≤W3.heap.size:=Nat.le_trans HR7.out.2.size HB23.out.size
    have htl:=toldTo_le hs' i
    have hW3:=HW3.out
    clear hb1
    go_wp2_with fail
    refine (HTw.out _ (by omega)).mono ?_
    rintro e w4 ⟨rfl,hx⟩
    subst w4
    rw [HTt.out]
    go_wp2_with (at_builtin; refine wp_append_states rfl _ _ rfl X5.heap.size _ (toldTo hs' i) rfl HO3.out (some ⟨w1.heap.size+1,0,none⟩) 1 1 [⟨yh,yp,yq⟩] rfl rfl (fun x=>by cases x) HSL.out (by omega) (by simp) hbs ?_)
    intro v' w5 hown hb5
    have HN:Hid (w5.ownsRow X5.heap.size 80 3 v' (toldTo hs' (i+1)).length (stCells (toldTo hs' (i+1)))∧Below X5.heap.size X5 w5):=by
     rw [HSt.out.2,List.length_append]; exact ⟨hown,(below_trans HR7.out.2 HB23.out).trans hb5⟩
    have HS1:Hid (S+T=setTo hs' (i+1)):=by rw [HSt.out.1,HSs.out,HTt.out]; exact rfl
    clear hown hb5
    go_wp2_with fail
    go_roundw
    case rel=>exact ⟨i+1,by omega,by rw [HS1.out],by go_num,HN.out⟩
    case measure=>simp [intOf]; omega
  ·obtain rfl:i=n:=by omega
   have hlt2:¬ ((i:Int)<(i:Int)):=by omega
   obtain ⟨adS,capS,hu9,-,hsl⟩:=SL.owned HR7.out.1
   subst hu9
   have HSL:=hid hsl
   have htl:=toldTo_le hs' i
   obtain ⟨b0,b1,b2,b3,b4,b5,b6,b7,b8⟩:=nine HI8.out.fr.row
   obtain ⟨nh,HNh⟩:∃ nh,Hid (hs'.length=nh):=⟨_,rfl⟩
   have HNil:Hid (∀ w',Below wr.heap.size wr w'→R=([],st,k,hs',ph)→∃ vh',IsFr w' (.slice none 0 0) R.1∧RLd w' lb id i cap deal att (some ⟨vb,vo,none⟩) R.2.1 R.2.2.1 vh' R.2.2.2.1 R.2.2.2.2 sn∧Kept (InH lb vh) w w'∧∀ g,vh'.ownBlock=some g→vh.ownBlock=some g ∨ w.heap.size≤g):=by
    intro w' hb hR
    rw [hR]
    have h9:=HI8.out.later hb
    exact ⟨_,IsFr.zero w',h9.ld,h9.kp,h9.nb⟩
   have HDec:Hid (∀ p v w',R=(sentL id deal 7 att p true i,stB 2,0,hs',ph)→IsFr w' v (sentL id deal 7 att p true i)→RLd w' lb id i cap deal att (some ⟨vb,vo,none⟩) (stB 2) 0 (.slice ad7 hs'.length cap7) hs' ph sn→Kept (In1 lb) wr w'→∃ vh',IsFr w' v R.1∧RLd w' lb id i cap deal att (some ⟨vb,vo,none⟩) R.2.1 R.2.2.1 vh' R.2.2.2.1 R.2.2.2.2 sn∧Kept (InH lb vh) w w'∧∀ g,vh'.ownBlock=some g→vh.ownBlock=some g ∨ w.heap.size≤g):=by
    intro p v w' hR q1 q2 q3
    rw [hR]
    exact ⟨_,q1,q2,HI8.out.kp.trans (q3.mono fun x hx=>.inl hx),HI8.out.nb⟩
   have HPre:Hid (∀ p v w',R=(sentL id deal 5 att p true i,stB 1,6,[],p)→IsFr w' v (sentL id deal 5 att p true i)→RLd w' lb id i cap deal att (some ⟨vb,vo,none⟩) (stB 1) 6 (.slice none 0 0) [] p sn→Kept (In1 lb) wr w'→∃ vh',IsFr w' v R.1∧RLd w' lb id i cap deal att (some ⟨vb,vo,none⟩) R.2.1 R.2.2.1 vh' R.2.2.2.1 R.2.2.2.2 sn∧Kept (InH lb vh) w w'∧∀ g,vh'.ownBlock=some g→vh.ownBlock=some g ∨ w.heap.size≤g):=by
    intro p v w' hR q1 q2 q3
    rw [hR]
    exact ⟨_,q1,q2,HI8.out.kp.trans (q3.mono fun x hx=>.inl hx),fun g hg=>by cases hg⟩
   rw [HNh.out] at c6
   clear hsl
   rcases hk with rfl|hk46
   ·by_cases hnn:nh=i
    ·have HRv:Hid (R=(sentL id deal 5 att 4 true i,stB 1,6,[],4)):=by
      rw [← HR.out]
      show (if (2:Int)=2 then (if hs'.length=zs.length then _ else _) else _)=_
      rw [if_pos rfl,if_pos (by rw [HNh.out,hzn]; exact hnn),hzn]
     have e1:((nh:Int) == (i:Int))=true:=by rw [hnn]; exact beq_self_eq_true _
     go_wp2_with fail
     go_quiet (fail)
     have HPr:=hid (rlprepare_any 4 (HI8.out.later (below_drewN (Below.refl wr.heap.size wr) nq)).ld (by omega))
     have HBq:=hid (below_drewN (Below.refl wr.heap.size wr) nq)
     generalize wr.drewN nq=wq at HPr HBq ⊢
     go_wp2_with fail
     refine HPr.out.mono ?_
     rintro e w7 ⟨v7,rfl,y1,y2,y3⟩
     have HY7:=hid (HPre.out 4 v7 w7 HRv.out y1 y2 ((Kept.of_below HBq.out).trans y3))
     clear y1 y2 y3
     go_wp2_with fail
     go_ret
     obtain ⟨vh',t1,t2,t3,t4⟩:=HY7.out
     first|exact ⟨v7,vh',rfl,t1,t2,t3,t4⟩|exact ⟨v7,rfl,t1,vh',t2,t3,t4⟩|exact ⟨v7,rfl,vh',t1,t2,t3,t4⟩|exact ⟨rfl,vh',t1,t2,t3,t4⟩|exact ⟨t1,vh',t2,t3,t4⟩|exact ⟨vh',t1,t2,t3,t4⟩
    ·have HRv:Hid (R=([],st,2,hs',ph)):=by
      rw [← HR.out]
      show (if (2:Int)=2 then (if hs'.length=zs.length then _ else _) else _)=_
      rw [if_pos rfl,if_neg (by rw [HNh.out,hzn]; exact hnn)]
     have e1:((nh:Int) == (i:Int))=false:=beq_eq_false_iff_ne.2 (by omega)
     go_wp2_with fail
     go_quiet (fail)
     have HY7:=hid (HNil.out _ (below_drewN (Below.refl wr.heap.size wr) nq) HRv.out)
     go_wp2_with fail
     go_ret
     obtain ⟨vh',t1,t2,t3,t4⟩:=HY7.out
     first|exact ⟨.slice none 0 0,vh',rfl,t1,t2,t3,t4⟩|exact ⟨.slice none 0 0,rfl,t1,vh',t2,t3,t4⟩|exact ⟨.slice none 0 0,rfl,vh',t1,t2,t3,t4⟩|exact ⟨rfl,vh',t1,t2,t3,t4⟩|exact ⟨t1,vh',t2,t3,t4⟩|exact ⟨vh',t1,t2,t3,t4⟩
   ·have k2:(k == 2)=false:=beq_eq_false_iff_ne.2 (by omega)
    have hsb:=setTo_bd hs' i
    have hp7:(2:Int) ^ i≤128:=by
     have h1:(2:Nat) ^ i≤2 ^ 7:=Nat.pow_le_pow_right (by decide) (by omega)
     have h2:((2 ^ i:Nat):Int)≤((2 ^ 7:Nat):Int):=by exact_mod_cast h1
     simpa using h2
    have HVw:Hid (∀ j,j<zs.length→wr.cell? ⟨vb,vo+j,none⟩=some (.int .i64 (zs.getD j 0))):=fun j hj=>cell_kept (HVC.out j hj) HI8.out.kp (fun e=>by rcases e with e|e; exact hvl e; exact hvh e)
    obtain ⟨S,HSs⟩:∃ S,Hid (setTo hs' i=S):=⟨_,rfl⟩
    rw [HSs.out] at hsb
    cases hen:enoughB zs S with
    | false =>
     have HEn:=hid (rEnough_is vb vo cap zs S false wr (by omega) HOk.out hsb.1 (by omega) HVw.out hen)
     rw [hzn] at HEn
     have HRv:Hid (R=([],st,k,hs',ph)):=by
      rw [← HR.out]
      unfold yesR
      rw [if_neg (by omega),if_pos (by rw [hzn,HSs.out]; exact hen)]
      exact rfl
     have HY7:=hid (HNil.out _ (Below.refl _ _) HRv.out)
     rw [HSs.out]
     go_wp2_with fail
     refine HEn.out.mono ?_
     rintro e w7 ⟨rfl,hx⟩
     subst w7
     go_wp2_with fail
     go_ret
     obtain ⟨vh',t1,t2,t3,t4⟩:=HY7.out
     first|exact ⟨.slice none 0 0,vh',rfl,t1,t2,t3,t4⟩|exact ⟨.slice none 0 0,rfl,t1,vh',t2,t3,t4⟩|exact ⟨.slice none 0 0,rfl,vh',t1,t2,t3,t4⟩|exact ⟨rfl,vh',t1,t2,t3,t4⟩|exact ⟨t1,vh',t2,t3,t4⟩|exact ⟨vh',t1,t2,t3,t4⟩
    | true =>
     have HEn:=hid (rEnough_is vb vo cap zs S true wr (by omega) HOk.out hsb.1 (by omega) HVw.out hen)
     rw [hzn] at HEn
     rw [HSs.out]
     rcases hk46 with rfl|rfl
     ·obtain ⟨p,fl,HCh⟩:∃ p fl,Hid (refL (toldTo hs' i)=(p,fl)):=⟨_,_,rfl⟩
      have HCo:=hid (rchoose_any adS capS (toldTo hs' i) wr (by omega) HSL.out)
      rw [HCh.out] at HCo
      cases fl with
      | true =>
       have HRv:Hid (R=(sentL id deal 7 att p true i,stB 2,0,hs',ph)):=by
        rw [← HR.out]
        unfold yesR
        rw [if_neg (by decide),if_neg (by rw [hzn,HSs.out,hen]; decide),if_neg (by decide),hzn,HCh.out,if_pos rfl]
        exact rfl
       have HDc:=hid (rldecide_any p HI8.out.ld (by omega))
       go_wp2_with fail
       refine HEn.out.mono ?_
       rintro e w7 ⟨rfl,hx⟩
       subst w7
       go_wp2_with fail
       refine HCo.out.mono ?_
       rintro e w7 ⟨rfl,hx⟩
       subst w7
       go_wp2_with fail
       refine HDc.out.mono ?_
       rintro e w7 ⟨v7,rfl,y1,y2,y3⟩
       have HY7:=hid (HDec.out p v7 w7 HRv.out y1 y2 y3)
       clear y1 y2 y3
       go_wp2_with fail
       go_ret
       obtain ⟨vh',t1,t2,t3,t4⟩:=HY7.out
       first|exact ⟨v7,vh',rfl,t1,t2,t3,t4⟩|exact ⟨v7,rfl,t1,vh',t2,t3,t4⟩|exact ⟨v7,rfl,vh',t1,t2,t3,t4⟩|exact ⟨rfl,vh',t1,t2,t3,t4⟩|exact ⟨t1,vh',t2,t3,t4⟩|exact ⟨vh',t1,t2,t3,t4⟩
      | false =>
       have HRv:Hid (R=(sentL id deal 5 att p true i,stB 1,6,[],p)):=by
        rw [← HR.out]
        unfold yesR
        rw [if_neg (by decide),if_neg (by rw [hzn,HSs.out,hen]; decide),if_neg (by decide),hzn,HCh.out,if_neg (fun h=>by cases h)]
        exact rfl
       have HDc:=hid (rlprepare_any p HI8.out.ld (by omega))
       go_wp2_with fail
       refine HEn.out.mono ?_
       rintro e w7 ⟨rfl,hx⟩
       subst w7
       go_wp2_with fail
       refine HCo.out.mono ?_
       rintro e w7 ⟨rfl,hx⟩
       subst w7
       go_wp2_with fail
       refine HDc.out.mono ?_
       rintro e w7 ⟨v7,rfl,y1,y2,y3⟩
       have HY7:=hid (HPre.out p v7 w7 HRv.out y1 y2 y3)
       clear y1 y2 y3
       go_wp2_with fail
       go_ret
       obtain ⟨vh',t1,t2,t3,t4⟩:=HY7.out
       first|exact ⟨v7,vh',rfl,t1,t2,t3,t4⟩|exact ⟨v7,rfl,t1,vh',t2,t3,t4⟩|exact ⟨v7,rfl,vh',t1,t2,t3,t4⟩|exact ⟨rfl,vh',t1,t2,t3,t4⟩|exact ⟨t1,vh',t2,t3,t4⟩|exact ⟨vh',t1,t2,t3,t4⟩
     ·obtain ⟨p,HPa⟩:∃ p,Hid (afterI ph=p):=⟨_,rfl⟩
      have HAf:=hid (rafter_any ph wr)
      rw [HPa.out] at HAf
      have HRv:Hid (R=(sentL id deal 7 att p true i,stB 2,0,hs',ph)):=by
       rw [← HR.out]
       unfold yesR
       rw [if_neg (by decide),if_neg (by rw [hzn,HSs.out,hen]; decide),if_pos rfl,hzn,HPa.out]
       exact rfl
      have HDc:=hid (rldecide_any p HI8.out.ld (by omega))
      go_wp2_with fail
      refine HEn.out.mono ?_
      rintro e w7 ⟨rfl,hx⟩
      subst w7
      go_wp2_with fail
      refine HAf.out.mono ?_
      rintro e w7 ⟨rfl,hx⟩
      subst w7
      go_wp2_with fail
      refine HDc.out.mono ?_
      rintro e w7 ⟨v7,rfl,y1,y2,y3⟩
      have HY7:=hid (HDec.out p v7 w7 HRv.out y1 y2 y3)
      clear y1 y2 y3
      go_wp2_with fail
      go_ret
      obtain ⟨vh',t1,t2,t3,t4⟩:=HY7.out
      first|exact ⟨v7,vh',rfl,t1,t2,t3,t4⟩|exact ⟨v7,rfl,t1,vh',t2,t3,t4⟩|exact ⟨v7,rfl,vh',t1,t2,t3,t4⟩|exact ⟨rfl,vh',t1,t2,t3,t4⟩|exact ⟨t1,vh',t2,t3,t4⟩|exact ⟨vh',t1,t2,t3,t4⟩
end
end Go.Proofs.YtaehdgemkafinaaGreatDoor
