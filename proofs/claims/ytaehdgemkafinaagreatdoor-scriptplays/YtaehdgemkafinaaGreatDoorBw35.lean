/-
  On the way to SPlaysProof: XX.
-/
import Derived.Test.YtaehdgemkafinaaGreatDoorBw33
set_option maxHeartbeats 8000000
set_option maxRecDepth 100000
namespace Go.Proofs.YtaehdgemkafinaaGreatDoor
open Go.RowKit
section
variable {w0 w w1 w':World} {C C':Nat→Nat} {K:RB} {Y:YB} {aw:Option Addr} {i n cap m m':Nat} {zs:List Int} {N:PN} {V V':PX}
theorem rdeliver_ok (j:Nat) (F:F9) (h:RW w0 w C Y aw cap zs V m) (hj:j<V.fly.length) (hF:V.fly[j]'hj=F) (hm:m<1000000) :
  Calls Tryz.prog 27 #[.pointer (some ⟨Y.xb,0,none⟩),.int .i64 (j:Int)] w fun e w'=>e=.returned (.int .i64 0)∧ROut w0 w w' C Y aw cap zs (deliverX zs V j F) (m+3):=by
 have HFI:=hid (h.inv.fr F (by rw [← hF]; exact List.getElem_mem _))
 obtain ⟨f,i,d,k,a,ph,pr,pa,e0,hf,hi,hd⟩:=HFI.out.nat
 obtain ⟨y,hy⟩:∃ y,F.y=y:=⟨_,rfl⟩
 rw [hy] at e0
 have HF0:=hid e0
 have H:=hid h
 have n7:=h.n7.2
 have HT:=hid (rtake_ok j F h hj hF (by omega))
 rw [e0] at HT
 simp only [frN] at HT
 have HFF:=hid hf
 have HII:=hid hi
 clear h e0 hF hj
 go_enter Tryz.func27,Tryz.ntmps27
 go_wp2_with fail
 refine HT.out.mono ?_
 rintro e w1 ⟨rfl,C1,Y1,g1,g2,g3,g4⟩
 obtain ⟨W3,HW3⟩:∃ W3,Hid (w1.alloc (.cells #[.int .i64 (f:Int),.int .i64 (i:Int),.int .i64 (d:Int),.int .i64 (k:Int),.int .i64 (a:Int),.bool y,.int .i64 (ph:Int),.int .i64 (pr:Int),.int .i64 (pa:Int)] 125)=W3):=⟨_,rfl⟩
 have HBW:Hid (Below w1.heap.size w1 W3):=by rw [← HW3.out]; exact (Below.refl _ _).alloc (Nat.le_refl _) _
 have HR3:Hid (W3.heap[w1.heap.size]? = some (.cells #[.int .i64 (f:Int),.int .i64 (i:Int),.int .i64 (d:Int),.int .i64 (k:Int),.int .i64 (a:Int),.bool y,.int .i64 (ph:Int),.int .i64 (pr:Int),.int .i64 (pa:Int)] 125 (0,0))):=by rw [← HW3.out]; exact heap_alloc_new w1 _
 have hW3:=HW3.out
 have HNW3:Hid (2000≤C1 w1.heap.size):=by
  rcases Nat.lt_or_ge (C1 w1.heap.size) 2000 with q|q
  ·have:=g1.lt _ q; omega
  ·exact q
 have HG:=hid (And.intro (g1.later HBW.out) g2)
 have HK3:Hid (Kept (OwnX C) w W3):=g3.trans (Kept.of_below HBW.out)
 have HC3:Hid (∀ x,x<w.heap.size→C1 x=C x):=g4
 have HXB:Hid (Y1.xb=Y.xb):=rkey_xb g2
 clear g1 g2 g3 g4
 obtain ⟨b0,b1,b2,b3,b4,b5,b6,b7,b8⟩:=nine HR3.out
 obtain ⟨-,c1,-,-,-⟩:=HG.out.1.cells
 rw [HXB.out] at c1
 have c2:=HG.out.1.ns i hi
 obtain ⟨z,hz⟩:∃ z,Hid (zs.length=z):=⟨_,rfl⟩
 have HZ:=hid n7
 rw [hz.out] at c1 hf hi n7
 have hW3':=HW3.out
 go_wp2_with fail
 go_quiet (fail)
 rename_i nq
 obtain ⟨W4,HW4⟩:∃ W4,Hid (W3.drewN nq=W4):=⟨_,rfl⟩
 have HB4:Hid (Below W3.heap.size W3 W4):=by rw [← HW4.out]; exact below_drewN (Below.refl _ _) nq
 have hW4:=HW4.out
 rw [hW4]
 clear hW4 b0 b1 b2 b3 b4 b5 b6 b7 b8 c1 c2 hW3 hW3'
 have HR4:Hid (W4.heap[w1.heap.size]? = some (.cells #[.int .i64 (f:Int),.int .i64 (i:Int),.int .i64 (d:Int),.int .i64 (k:Int),.int .i64 (a:Int),.bool y,.int .i64 (ph:Int),.int .i64 (pr:Int),.int .i64 (pa:Int)] 125 (0,0))):=by rw [← HW4.out]; exact HR3.out
 have H4:=hid (HG.out.1.later HB4.out)
 obtain ⟨b0,b1,b2,b3,b4,b5,b6,b7,b8⟩:=nine HR4.out
 have HN4:=hid (H4.out.nds i HII.out)
 obtain ⟨d0,-,d2,-⟩:=HN4.out.cells
 have hlead:=HN4.out.lead hd
 have HBr:=hid (rbroken_is f i H4.out (by omega) (by omega) (by omega))
 obtain ⟨q,HQ⟩:∃ q,Hid ((!(decide (f=i) || !brX (takeX V j) f i))=q):=⟨_,rfl⟩
 rw [HQ.out,HXB.out] at HBr
 obtain ⟨u,HU⟩:∃ u,Hid (upN (V.nd i)=u):=⟨_,rfl⟩
 have HU2:Hid (upN ((takeX V j).nd i)=u):=HU.out
 have HRr:Hid (reachB (takeX V j) F=(u && !q)):=by
  rw [HF0.out]
  unfold reachB
  rw [← HQ.out,← HU.out,Bool.not_not]
  show (upN ((takeX V j).nd ((i:Int)).toNat) && (((f:Int) == (i:Int)) || !brX (takeX V j) ((f:Int)).toNat ((i:Int)).toNat))=_
  rw [Int.toNat_natCast,Int.toNat_natCast]
  have:((f:Int) == (i:Int))=decide (f=i):=by
   by_cases e:f=i
   ·subst e; simp
   ·rw [decide_eq_false e]; exact beq_eq_false_iff_ne.2 (by omega)
  rw [this]
  rfl
 have HDX:Hid (deliverX zs V j F=if (u && !q)=true then sendX (arriveX zs (takeX V j) F) (arriveO zs (takeX V j) F) else takeX V j):=by
  unfold deliverX
  rw [← HRr.out]
  exact rfl
 have HK4:Hid (Kept (OwnX C) w W4):=HK3.out.trans (Kept.of_below HB4.out)
 have HKY:Hid (rkey Y1=rkey Y):=HG.out.2
 unfold rsV at d0
 rw [HU2.out] at d0
 go_wp2_with fail
 refine HBr.out.mono ?_
 rintro e w5 ⟨rfl,hx5⟩
 subst w5
 cases u with
 | false =>
  rw [if_neg (by decide)] at d0
  go_wp2_with fail
  go_ret
  refine ⟨rfl,?_⟩
  rw [HDX.out,if_neg (by simp)]
  exact ⟨C1,Y1,H4.out.mono (by omega),HKY.out,HK4.out,HC3.out⟩
 | true =>
  rw [if_pos rfl] at d0
  cases q with
  | true =>
   go_wp2_with fail
   go_ret
   refine ⟨rfl,?_⟩
   rw [HDX.out,if_neg (by simp)]
   exact ⟨C1,Y1,H4.out.mono (by omega),HKY.out,HK4.out,HC3.out⟩
  | false =>
   rw [if_pos (by simp)] at HDX
   have HNS:Hid (∀ x,C1 x<2000→x≠w1.heap.size):=fun x hx e=>by have:=HNW3.out; rw [e] at hx; omega
   by_cases hk3:k=2 ∨ k=4 ∨ k=6
   ·have HA:Hid (arriveX zs (takeX V j) F=leadX zs (takeX V j) i d F∧arriveO zs (takeX V j) F=leadO zs (takeX V j) i d F):=by
     have e1:isAns F.k=true:=by rw [HF0.out]; unfold isAns; show decide ((k:Int)=2 ∨ (k:Int)=4 ∨ (k:Int)=6)=true; exact decide_eq_true (by omega)
     have e2:F.t.toNat=i:=by rw [HF0.out]; exact Int.toNat_natCast i
     have e3:F.d.toNat=d:=by rw [HF0.out]; exact Int.toNat_natCast d
     unfold arriveX arriveO
     rw [if_pos e1,if_pos e1,e2,e3]
     exact ⟨rfl,rfl⟩
    cases hx:(V.nd i).ld d with
    | none =>
     rw [rldV_none (show ((takeX V j).nd i).ld d=none from hx)] at hlead
     have HX:Hid (sendX (arriveX zs (takeX V j) F) (arriveO zs (takeX V j) F)=takeX V j):=by
      obtain ⟨x1,x2⟩:=leadX_no (zs:=zs) (F:=F) (show ((takeX V j).nd i).ld d=none from hx)
      rw [HA.out.1,HA.out.2,x1,x2]; exact sendX_nil
     clear hx
     rcases hk3 with rfl|rfl|rfl
     all_goals
      go_wp2_with fail
      go_quiet (fail)
      rename Nat=>nq2
      have HB5:Hid (Below W4.heap.size W4 (W4.drewN nq2)):=below_drewN (Below.refl _ _) nq2
      go_wp2_with fail
      go_ret
      refine ⟨rfl,?_⟩
      rw [HDX.out,HX.out]
      exact ⟨C1,Y1,(H4.out.later HB5.out).mono (by omega),HKY.out,HK4.out.trans (Kept.of_below HB5.out),HC3.out⟩
    | some x =>
     have hx':((takeX V j).nd i).ld d=some x:=hx
     rw [rldV_some hx'] at hlead
     have HX:=hid hx'
     obtain ⟨vb,vo,rfl,hvb,hvc⟩:=H4.out.weights
     have HVC:=hid hvc
     have HVB:=hid hvb
     obtain ⟨L,hRel,hRL⟩:=HN4.out.lds d hd x hx'
     obtain ⟨hce1,hce2⟩:=HN4.out.ce d hd x hx'
     have HCE:=hid (And.intro hce1 hce2)
     have HRel:=hid hRel
     have HRL:=hid hRL
     have HNI:=hid ((H4.out.inv.nd i HII.out).ld d x hx')
     have HSx:Hid (sendX (arriveX zs (takeX V j) F) (arriveO zs (takeX V j) F)=sendX (setNd (takeX V j) i (setLd ((takeX V j).nd i) d (x.1,(phear zs i d x.1 x.2 F).1))) (outL i d x.1 zs.length (phear zs i d x.1 x.2 F).2)):=by
      obtain ⟨x1,x2⟩:=leadX_at (zs:=zs) (F:=F) hx'
      rw [HA.out.1,HA.out.2,x1,x2]; exact rfl
     have HH:Hid (∀ kv:Int,(k:Int)=kv→∀ W',Below W4.heap.size W4 W'→Calls Tryz.prog 88 #[.pointer (some ⟨(Y1.K i).lb d,0,none⟩),frV (f:Int) (i:Int) (d:Int) kv (a:Int) y (ph:Int) (pr:Int) (pa:Int)] W' fun e w'=>∃ v vh' L',e=.returned v∧IsFr w' v (outL i d x.1 zs.length (phear zs i d x.1 x.2 F).2)∧Rel zs.length x.1 (phear zs i d x.1 x.2 F).1 L'∧RLd w' ((Y1.K i).lb d) i zs.length cap (d:Int) x.1 (some ⟨vb,vo,none⟩) (stB L'.stt) L'.wait vh' L'.hs L'.ph L'.seen∧Kept (InH ((Y1.K i).lb d) ((Y1.K i).vh d)) W' w'∧∀ g,vh'.ownBlock=some g→((Y1.K i).vh d).ownBlock=some g ∨ W'.heap.size≤g):=by
      rintro _ rfl W' hb
      have hlo:=H4.out.low
      have:=rlhear_all (w:=W') (zs:=zs) (lb:=(Y1.K i).lb d) (id:=i) (cap:=cap) (vb:=vb) (vo:=vo) (deal:=d) (att:=x.1) (vh:=(Y1.K i).vh d) (P:=x.2) (L:=L) F (HRL.out.later hb) HRel.out HNI.out.2.1.1 (fun _=>by have:=HFI.out.ok.2.2.2.2.2.2.1; omega) H4.out.inv.he (fun q hq=>cell_later hb (HVC.out q hq)) (fun e=>by have h5:=hlo ((Y1.K i).lb d) (by have:=HCE.out.1; omega); have:=HVB.out; omega) (fun e=>by have h6:=HCE.out.2 _ e; have h5:=hlo vb (by omega); have:=HVB.out; omega)
      rw [HF0.out] at this ⊢
      exact this
     have HK1:Hid (∀ W' w',Kept (InH ((Y1.K i).lb d) ((Y1.K i).vh d)) W' w'→∀ a u,W'.cell? a=some u→(a.block=(Y1.K i).nd ∨ a.block=(Y1.K i).ls ∨ a.block=w1.heap.size)→w'.cell? a=some u):=by
      intro W' w' hk a u hc ha
      refine keptCell hk hc (fun q=>?_)
      have c1:=HN4.out.cn; have c2:=HN4.out.cl; have c3:=HNW3.out
      rcases q with q|q
      ·have:=HCE.out.1
       rw [q] at ha
       rcases ha with e|e|e <;> (rw [e] at this; omega)
      ·have:=HCE.out.2 _ q
       rcases ha with e|e|e <;> (rw [e] at this; omega)
     have HNI2:=hid (((H4.out.inv.nd i HII.out).hears (i:=i) (d:=d) (F:=F) hx' hRel HZ.out HFI.out))
     have HOF:=hid (outL_fi (zs:=zs) (id:=i) (d:=d) (att:=x.1) (P:=x.2) (f:=F) HII.out HZ.out hd HNI.out.2.1)
     have HOL:Hid ((outL i d x.1 zs.length (phear zs i d x.1 x.2 F).2).length≤1000):=Nat.le_trans (outL_le _ _ _ _ _) (by have:=HZ.out; omega)
     have HAF:Hid (∀ W5 w6 v vh' L',Below W4.heap.size W4 W5→IsFr w6 v (outL i d x.1 zs.length (phear zs i d x.1 x.2 F).2)→Rel zs.length x.1 (phear zs i d x.1 x.2 F).1 L'→RLd w6 ((Y1.K i).lb d) i zs.length cap (d:Int) x.1 (some ⟨vb,vo,none⟩) (stB L'.stt) L'.wait vh' L'.hs L'.ph L'.seen→Kept (InH ((Y1.K i).lb d) ((Y1.K i).vh d)) W5.drew w6→(∀ g,vh'.ownBlock=some g→((Y1.K i).vh d).ownBlock=some g ∨ W5.drew.heap.size≤g) →
       ∃ C6 Y6,(rkey Y6=rkey Y1∧Kept (OwnX C1) W5.drew w6∧∀ x,x<W5.drew.heap.size→C6 x=C1 x)∧(Calls Tryz.prog 83 #[.pointer (some ⟨Y.xb,0,none⟩),v] w6 fun e w'=>e=.returned (.tuple #[])∧ROut w0 w6 w' C6 Y6 (some ⟨vb,vo,none⟩) cap zs (sendX (setNd (takeX V j) i (setLd ((takeX V j).nd i) d (x.1,(phear zs i d x.1 x.2 F).1))) (outL i d x.1 zs.length (phear zs i d x.1 x.2 F).2)) (m+1)∧Kept (fun x=>C6 x=1001 ∨ C6 x=1005) w6 w')∧(∀ w',Kept (fun x=>C6 x=1001 ∨ C6 x=1005) w6 w'→∀ a u,w6.cell? a=some u→(a.block=(Y1.K i).nd ∨ a.block=(Y1.K i).ls ∨ a.block=w1.heap.size)→w'.cell? a=some u)):=by
      intro W5 w6 v vh' L' hb5 hv6 hr6 hl6 hk6 hg6
      have H5:=H4.out.later hb5.drew
      obtain ⟨C6,Y6,x1,x2,x3,x4⟩:=H5.leadOut HII.out hd HX.out hk6 hr6 hl6 hg6 (Nat.le_refl _) HNI2.out
      have hsend:=rsend_kept v _ x1 hv6 HOF.out HOL.out (by omega)
      rw [rkey_xb x2,HXB.out] at hsend
      refine ⟨C6,Y6,⟨x2,x3,x4⟩,hsend,fun w' hk a u hc ha=>keptCell hk hc (fun q=>?_)⟩
      have c1:=HN4.out.cn; have c2:=HN4.out.cl; have c3:=HNW3.out
      have z1:=row_ltJ HN4.out.row; have z2:=row_ltJ HN4.out.lrow; have z3:=row_ltJ HR4.out
      have z4:W4.heap.size≤W5.drew.heap.size:=hb5.drew.size
      have y1:=x4 (Y1.K i).nd (by omega); have y2:=x4 (Y1.K i).ls (by omega); have y3:=x4 w1.heap.size (by omega)
      rcases ha with e|e|e <;> (rw [e] at q; omega)
     clear hx hx' hvb hvc hRel hRL hce1 hce2
     rcases hk3 with rfl|rfl|rfl
     ·go_wp2_with fail
      go_quiet (fail)
      rename Nat=>nq2
      obtain ⟨W5,HW5⟩:∃ W5,Hid (W4.drewN nq2=W5):=⟨_,rfl⟩
      have HB5:Hid (Below W4.heap.size W4 W5):=by rw [← HW5.out]; exact below_drewN (Below.refl _ _) nq2
      have hW5:=HW5.out
      rw [hW5]
      clear hW5
      have b0:=cell_later HB5.out b0
      have b1:=cell_later HB5.out b1
      have b2:=cell_later HB5.out b2
      have b3:=cell_later HB5.out b3
      have b4:=cell_later HB5.out b4
      have b5:=cell_later HB5.out b5
      have b6:=cell_later HB5.out b6
      have b7:=cell_later HB5.out b7
      have b8:=cell_later HB5.out b8
      have d2:=cell_later HB5.out d2
      have hlead:=cell_later HB5.out hlead
      go_wp2_with fail
      have hd0:(0:Int)≤(d:Int):=by omega
      have hd6:(d:Int)<6:=by omega
      have hd7:¬ ((d:Int)<0):=by omega
      go_region_held3 (fun V=>V.cell? ⟨(Y1.K i).nd,2,none⟩=some (.slice (some ⟨(Y1.K i).ls,0,none⟩) 6 6)∧V.cell? ⟨(Y1.K i).ls,d,none⟩=some (.pointer (some ⟨(Y1.K i).lb d,0,none⟩))∧V.cell? ⟨w1.heap.size,0,none⟩=some (.int .i64 (f:Int))∧V.cell? ⟨w1.heap.size,1,none⟩=some (.int .i64 (i:Int))∧V.cell? ⟨w1.heap.size,2,none⟩=some (.int .i64 (d:Int))∧V.cell? ⟨w1.heap.size,3,none⟩=some (.int .i64 ((2:Nat):Int))∧V.cell? ⟨w1.heap.size,4,none⟩=some (.int .i64 (a:Int))∧V.cell? ⟨w1.heap.size,5,none⟩=some (.bool y)∧V.cell? ⟨w1.heap.size,6,none⟩=some (.int .i64 (ph:Int))∧V.cell? ⟨w1.heap.size,7,none⟩=some (.int .i64 (pr:Int))∧V.cell? ⟨w1.heap.size,8,none⟩=some (.int .i64 (pa:Int))) (go_keep) (first|(go_at_call 88; (with_reducible refine (HH.out 2 rfl _ HB5.out.drew).mono ?_); rintro e w6 ⟨v,vh',L',rfl,hv6,hr6,hl6,hk6,hg6⟩; have q0:=HK1.out _ _ hk6 _ _ d2 (.inl rfl); have q1:=HK1.out _ _ hk6 _ _ hlead (.inr (.inl rfl)); have p0:=HK1.out _ _ hk6 _ _ b0 (.inr (.inr rfl)); have p1:=HK1.out _ _ hk6 _ _ b1 (.inr (.inr rfl)); have p2:=HK1.out _ _ hk6 _ _ b2 (.inr (.inr rfl)); have p3:=HK1.out _ _ hk6 _ _ b3 (.inr (.inr rfl)); have p4:=HK1.out _ _ hk6 _ _ b4 (.inr (.inr rfl)); have p5:=HK1.out _ _ hk6 _ _ b5 (.inr (.inr rfl)); have p6:=HK1.out _ _ hk6 _ _ b6 (.inr (.inr rfl)); have p7:=HK1.out _ _ hk6 _ _ b7 (.inr (.inr rfl)); have p8:=HK1.out _ _ hk6 _ _ b8 (.inr (.inr rfl)); obtain ⟨C6,Y6,HO6,HSe,HK7⟩:=HAF.out W5 w6 v vh' L' HB5.out hv6 hr6 hl6 hk6 hg6; clear hv6 hr6 hl6 hk6 hg6)|(go_at_call 83; (with_reducible refine HSe.mono ?_); rintro e w7 ⟨rfl,ho7,hk7⟩; have r0:=HK7 _ hk7 _ _ q0 (.inl rfl); have r1:=HK7 _ hk7 _ _ q1 (.inr (.inl rfl)); have s0:=HK7 _ hk7 _ _ p0 (.inr (.inr rfl)); have s1:=HK7 _ hk7 _ _ p1 (.inr (.inr rfl)); have s2:=HK7 _ hk7 _ _ p2 (.inr (.inr rfl)); have s3:=HK7 _ hk7 _ _ p3 (.inr (.inr rfl)); have s4:=HK7 _ hk7 _ _ p4 (.inr (.inr rfl)); have s5:=HK7 _ hk7 _ _ p5 (.inr (.inr rfl)); have s6:=HK7 _ hk7 _ _ p6 (.inr (.inr rfl)); have s7:=HK7 _ hk7 _ _ p7 (.inr (.inr rfl)); have s8:=HK7 _ hk7 _ _ p8 (.inr (.inr rfl)); have HO7:=hid ho7; clear ho7 hk7))
      go_wp2_with fail
      go_ret
      refine ⟨rfl,?_⟩
      rw [HDX.out,HSx.out]
      refine ROut.step HKY.out (HK4.out.trans (Kept.of_below HB5.out.drew)) HC3.out ?_
      exact (ROut.step HO6.1 HO6.2.1 HO6.2.2 HO7.out).mono (by omega)
     ·go_wp2_with fail
      go_quiet (fail)
      rename Nat=>nq2
      obtain ⟨W5,HW5⟩:∃ W5,Hid (W4.drewN nq2=W5):=⟨_,rfl⟩
      have HB5:Hid (Below W4.heap.size W4 W5):=by rw [← HW5.out]; exact below_drewN (Below.refl _ _) nq2
      have hW5:=HW5.out
      rw [hW5]
      clear hW5
      have b0:=cell_later HB5.out b0
      have b1:=cell_later HB5.out b1
      have b2:=cell_later HB5.out b2
      have b3:=cell_later HB5.out b3
      have b4:=cell_later HB5.out b4
      have b5:=cell_later HB5.out b5
      have b6:=cell_later HB5.out b6
      have b7:=cell_later HB5.out b7
      have b8:=cell_later HB5.out b8
      have d2:=cell_later HB5.out d2
      have hlead:=cell_later HB5.out hlead
      go_wp2_with fail
      have hd0:(0:Int)≤(d:Int):=by omega
      have hd6:(d:Int)<6:=by omega
      have hd7:¬ ((d:Int)<0):=by omega
      go_region_held3 (fun V=>V.cell? ⟨(Y1.K i).nd,2,none⟩=some (.slice (some ⟨(Y1.K i).ls,0,none⟩) 6 6)∧V.cell? ⟨(Y1.K i).ls,d,none⟩=some (.pointer (some ⟨(Y1.K i).lb d,0,none⟩))∧V.cell? ⟨w1.heap.size,0,none⟩=some (.int .i64 (f:Int))∧V.cell? ⟨w1.heap.size,1,none⟩=some (.int .i64 (i:Int))∧V.cell? ⟨w1.heap.size,2,none⟩=some (.int .i64 (d:Int))∧V.cell? ⟨w1.heap.size,3,none⟩=some (.int .i64 ((4:Nat):Int))∧V.cell? ⟨w1.heap.size,4,none⟩=some (.int .i64 (a:Int))∧V.cell? ⟨w1.heap.size,5,none⟩=some (.bool y)∧V.cell? ⟨w1.heap.size,6,none⟩=some (.int .i64 (ph:Int))∧V.cell? ⟨w1.heap.size,7,none⟩=some (.int .i64 (pr:Int))∧V.cell? ⟨w1.heap.size,8,none⟩=some (.int .i64 (pa:Int))) (go_keep) (first|(go_at_call 88; (with_reducible refine (HH.out 4 rfl _ HB5.out.drew).mono ?_); rintro e w6 ⟨v,vh',L',rfl,hv6,hr6,hl6,hk6,hg6⟩; have q0:=HK1.out _ _ hk6 _ _ d2 (.inl rfl); have q1:=HK1.out _ _ hk6 _ _ hlead (.inr (.inl rfl)); have p0:=HK1.out _ _ hk6 _ _ b0 (.inr (.inr rfl)); have p1:=HK1.out _ _ hk6 _ _ b1 (.inr (.inr rfl)); have p2:=HK1.out _ _ hk6 _ _ b2 (.inr (.inr rfl)); have p3:=HK1.out _ _ hk6 _ _ b3 (.inr (.inr rfl)); have p4:=HK1.out _ _ hk6 _ _ b4 (.inr (.inr rfl)); have p5:=HK1.out _ _ hk6 _ _ b5 (.inr (.inr rfl)); have p6:=HK1.out _ _ hk6 _ _ b6 (.inr (.inr rfl)); have p7:=HK1.out _ _ hk6 _ _ b7 (.inr (.inr rfl)); have p8:=HK1.out _ _ hk6 _ _ b8 (.inr (.inr rfl)); obtain ⟨C6,Y6,HO6,HSe,HK7⟩:=HAF.out W5 w6 v vh' L' HB5.out hv6 hr6 hl6 hk6 hg6; clear hv6 hr6 hl6 hk6 hg6)|(go_at_call 83; (with_reducible refine HSe.mono ?_); rintro e w7 ⟨rfl,ho7,hk7⟩; have r0:=HK7 _ hk7 _ _ q0 (.inl rfl); have r1:=HK7 _ hk7 _ _ q1 (.inr (.inl rfl)); have s0:=HK7 _ hk7 _ _ p0 (.inr (.inr rfl)); have s1:=HK7 _ hk7 _ _ p1 (.inr (.inr rfl)); have s2:=HK7 _ hk7 _ _ p2 (.inr (.inr rfl)); have s3:=HK7 _ hk7 _ _ p3 (.inr (.inr rfl)); have s4:=HK7 _ hk7 _ _ p4 (.inr (.inr rfl)); have s5:=HK7 _ hk7 _ _ p5 (.inr (.inr rfl)); have s6:=HK7 _ hk7 _ _ p6 (.inr (.inr rfl)); have s7:=HK7 _ hk7 _ _ p7 (.inr (.inr rfl)); have s8:=HK7 _ hk7 _ _ p8 (.inr (.inr rfl)); have HO7:=hid ho7; clear ho7 hk7))
      go_wp2_with fail
      go_ret
      refine ⟨rfl,?_⟩
      rw [HDX.out,HSx.out]
      refine ROut.step HKY.out (HK4.out.trans (Kept.of_below HB5.out.drew)) HC3.out ?_
      exact (ROut.step HO6.1 HO6.2.1 HO6.2.2 HO7.out).mono (by omega)
     ·go_wp2_with fail
      go_quiet (fail)
      rename Nat=>nq2
      obtain ⟨W5,HW5⟩:∃ W5,Hid (W4.drewN nq2=W5):=⟨_,rfl⟩
      have HB5:Hid (Below W4.heap.size W4 W5):=by rw [← HW5.out]; exact below_drewN (Below.refl _ _) nq2
      have hW5:=HW5.out
      rw [hW5]
      clear hW5
      have b0:=cell_later HB5.out b0
      have b1:=cell_later HB5.out b1
      have b2:=cell_later HB5.out b2
      have b3:=cell_later HB5.out b3
      have b4:=cell_later HB5.out b4
      have b5:=cell_later HB5.out b5
      have b6:=cell_later HB5.out b6
      have b7:=cell_later HB5.out b7
      have b8:=cell_later HB5.out b8
      have d2:=cell_later HB5.out d2
      have hlead:=cell_later HB5.out hlead
      go_wp2_with fail
      have hd0:(0:Int)≤(d:Int):=by omega
      have hd6:(d:Int)<6:=by omega
      have hd7:¬ ((d:Int)<0):=by omega
      go_region_held3 (fun V=>V.cell? ⟨(Y1.K i).nd,2,none⟩=some (.slice (some ⟨(Y1.K i).ls,0,none⟩) 6 6)∧V.cell? ⟨(Y1.K i).ls,d,none⟩=some (.pointer (some ⟨(Y1.K i).lb d,0,none⟩))∧V.cell? ⟨w1.heap.size,0,none⟩=some (.int .i64 (f:Int))∧V.cell? ⟨w1.heap.size,1,none⟩=some (.int .i64 (i:Int))∧V.cell? ⟨w1.heap.size,2,none⟩=some (.int .i64 (d:Int))∧V.cell? ⟨w1.heap.size,3,none⟩=some (.int .i64 ((6:Nat):Int))∧V.cell? ⟨w1.heap.size,4,none⟩=some (.int .i64 (a:Int))∧V.cell? ⟨w1.heap.size,5,none⟩=some (.bool y)∧V.cell? ⟨w1.heap.size,6,none⟩=some (.int .i64 (ph:Int))∧V.cell? ⟨w1.heap.size,7,none⟩=some (.int .i64 (pr:Int))∧V.cell? ⟨w1.heap.size,8,none⟩=some (.int .i64 (pa:Int))) (go_keep) (first|(go_at_call 88; (with_reducible refine (HH.out 6 rfl _ HB5.out.drew).mono ?_); rintro e w6 ⟨v,vh',L',rfl,hv6,hr6,hl6,hk6,hg6⟩; have q0:=HK1.out _ _ hk6 _ _ d2 (.inl rfl); have q1:=HK1.out _ _ hk6 _ _ hlead (.inr (.inl rfl)); have p0:=HK1.out _ _ hk6 _ _ b0 (.inr (.inr rfl)); have p1:=HK1.out _ _ hk6 _ _ b1 (.inr (.inr rfl)); have p2:=HK1.out _ _ hk6 _ _ b2 (.inr (.inr rfl)); have p3:=HK1.out _ _ hk6 _ _ b3 (.inr (.inr rfl)); have p4:=HK1.out _ _ hk6 _ _ b4 (.inr (.inr rfl)); have p5:=HK1.out _ _ hk6 _ _ b5 (.inr (.inr rfl)); have p6:=HK1.out _ _ hk6 _ _ b6 (.inr (.inr rfl)); have p7:=HK1.out _ _ hk6 _ _ b7 (.inr (.inr rfl)); have p8:=HK1.out _ _ hk6 _ _ b8 (.inr (.inr rfl)); obtain ⟨C6,Y6,HO6,HSe,HK7⟩:=HAF.out W5 w6 v vh' L' HB5.out hv6 hr6 hl6 hk6 hg6; clear hv6 hr6 hl6 hk6 hg6)|(go_at_call 83; (with_reducible refine HSe.mono ?_); rintro e w7 ⟨rfl,ho7,hk7⟩; have r0:=HK7 _ hk7 _ _ q0 (.inl rfl); have r1:=HK7 _ hk7 _ _ q1 (.inr (.inl rfl)); have s0:=HK7 _ hk7 _ _ p0 (.inr (.inr rfl)); have s1:=HK7 _ hk7 _ _ p1 (.inr (.inr rfl)); have s2:=HK7 _ hk7 _ _ p2 (.inr (.inr rfl)); have s3:=HK7 _ hk7 _ _ p3 (.inr (.inr rfl)); have s4:=HK7 _ hk7 _ _ p4 (.inr (.inr rfl)); have s5:=HK7 _ hk7 _ _ p5 (.inr (.inr rfl)); have s6:=HK7 _ hk7 _ _ p6 (.inr (.inr rfl)); have s7:=HK7 _ hk7 _ _ p7 (.inr (.inr rfl)); have s8:=HK7 _ hk7 _ _ p8 (.inr (.inr rfl)); have HO7:=hid ho7; clear ho7 hk7))
      go_wp2_with fail
      go_ret
      refine ⟨rfl,?_⟩
      rw [HDX.out,HSx.out]
      refine ROut.step HKY.out (HK4.out.trans (Kept.of_below HB5.out.drew)) HC3.out ?_
      exact (ROut.step HO6.1 HO6.2.1 HO6.2.2 HO7.out).mono (by omega)
   ·have HA:Hid (arriveX zs (takeX V j) F=hearX (takeX V j) i F∧arriveO zs (takeX V j) F=ansN i ((takeX V j).nd i) F):=by
     have e1:¬ isAns F.k=true:=by rw [HF0.out]; unfold isAns; show ¬ decide ((k:Int)=2 ∨ (k:Int)=4 ∨ (k:Int)=6)=true; rw [decide_eq_false (by omega)]; decide
     have e2:F.t.toNat=i:=by rw [HF0.out]; exact Int.toNat_natCast i
     unfold arriveX arriveO
     rw [if_neg e1,if_neg e1,e2]
     exact ⟨rfl,rfl⟩
    have hup:((takeX V j).nd i).l≠-2:=by have:=HU2.out; unfold upN at this; simpa using this
    have HAO:=hid (arriveO_fi (F:=F) H4.out.inv (by rw [HF0.out]; exact hup) HFI.out hm)
    rw [HA.out.2] at HAO
    have HHe:=hid (rwhear_any f d k a ph pr pa y F HF0.out H4.out HII.out HU2.out HFI.out (by omega))
    rw [HXB.out] at HHe
    have HH:=hid (hearN_hf (H4.out.inv.nd i HII.out) hup HFI.out (by omega))
    obtain ⟨b,HBb⟩:∃ b,Hid (upN (hearN ((takeX V j).nd i) F)=b):=⟨_,rfl⟩
    rw [HBb.out] at HHe
    have k2:((k:Int) == 2)=false:=beq_eq_false_iff_ne.2 (by omega)
    have k4:((k:Int) == 4)=false:=beq_eq_false_iff_ne.2 (by omega)
    have k6:((k:Int) == 6)=false:=beq_eq_false_iff_ne.2 (by omega)
    clear hup hk3 hlead d2
    go_wp2_with fail
    refine HHe.out.mono ?_
    rintro e w5 ⟨v,rfl,C5,Y5,g1,g2,g3,g4,g5⟩
    have HSe:=hid (rsend_any v _ g1 g5.fr HAO.out.1 (Nat.le_trans HAO.out.2 (by decide)) (by omega))
    rw [rkey_xb g2,HXB.out] at HSe
    have HG5:=hid (And.intro g1 (And.intro g2 (And.intro g3 g4)))
    clear g1 g2 g3 g4 g5 b0 b1 b2 b3 b4 b5 b6 b7 b8 d0
    cases b with
    | true =>
     go_wp2_with fail
     refine HSe.out.mono ?_
     rintro e w6 ⟨rfl,ho6⟩
     have HO6:=hid ho6
     clear ho6
     go_wp2_with fail
     go_ret
     refine ⟨rfl,?_⟩
     rw [HDX.out,HA.out.1,HA.out.2]
     refine ROut.step HKY.out HK4.out HC3.out ?_
     exact (ROut.step HG5.out.2.1 HG5.out.2.2.1 HG5.out.2.2.2 HO6.out).mono (by omega)
    | false =>
     have hn:ansN i ((takeX V j).nd i) F=[]:=by
      have h1:=HH.out.up
      rw [HBb.out] at h1
      unfold ansN
      rw [if_neg (fun q=>by rw [decide_eq_true q.1] at h1; cases h1)]
     have HNn:=hid hn
     clear hn
     go_wp2_with fail
     go_ret
     refine ⟨rfl,?_⟩
     rw [HDX.out,HA.out.1,HA.out.2,HNn.out,sendX_nil]
     refine ROut.step HKY.out HK4.out HC3.out ?_
     exact ROut.mono ⟨C5,Y5,HG5.out.1,HG5.out.2.1,HG5.out.2.2.1,HG5.out.2.2.2⟩ (by omega)
end
end Go.Proofs.YtaehdgemkafinaaGreatDoor
