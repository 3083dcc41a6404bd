/-
  On the way to SPlaysProof: XT XH XJ XK XL.
-/
import Derived.Test.YtaehdgemkafinaaGreatDoorBw26
import Derived.Test.YtaehdgemkafinaaGreatDoorBw25
import Derived.DeepKeys
set_option maxHeartbeats 8000000
set_option maxRecDepth 100000
namespace Go.Proofs.YtaehdgemkafinaaGreatDoor
open Go.RowKit
section
variable {w0 w w1 w':World} {C C':Nat→Nat} {K:RB} {Y:YB} {aw:Option Addr} {i n cap m m':Nat} {zs:List Int} {N:PN} {V V':PX}
theorem hearX_0 {V:PX} {i d:Nat} {F:F9} (hd:F.d.toNat=d):hearX V i F={ setNd V i (hearN (V.nd i) F) with evs:=noteE V.evs i d (stN (V.nd i) d).ph (stN (hearN (V.nd i) F) d).ph }:=by unfold hearX; rw [hd]
theorem noteE_same (E:List E3) (i d a:Nat):noteE E i d a a=E:=by unfold noteE; rw [if_neg (fun h=>h.1 rfl)]
theorem XI.noteE {V:PX} {d a b:Nat} (h:XI zs V m):XI zs { V with evs:=noteE V.evs i d a b } m :=
 ⟨h.he,h.nd,h.fr,h.fl,by
  show (Go.Proofs.YtaehdgemkafinaaGreatDoor.noteE V.evs i d a b).length≤500
  have:=h.ev
  unfold Go.Proofs.YtaehdgemkafinaaGreatDoor.noteE
  split
  ·rename_i q; rw [List.length_append]; simp only [List.length_cons,List.length_nil]; omega
  ·exact this⟩
theorem rwhear_any (f d k a ph pr pa:Nat) (y:Bool) (F:F9) (hF:F=frN f i d k a y ph pr pa) (h:RW w0 w C Y aw cap zs V m) (hi:i<zs.length) (hu:upN (V.nd i)=true) (hf:FI zs.length F) (hm:m<100000000) :
  Calls Tryz.prog 87 #[.pointer (some ⟨Y.xb,0,none⟩),.int .i64 (i:Int),frV (f:Int) (i:Int) (d:Int) (k:Int) (a:Int) y (ph:Int) (pr:Int) (pa:Int)] w fun e w'=>∃ v,e=.returned (.tuple #[v,.bool (upN (hearN (V.nd i) F))])∧ROutF w0 w w' C Y aw cap zs (hearX V i F) (m+1) v (ansN i (V.nd i) F):=by
 have hd:d<6:=by have:=hf.ok.2.2.1; rw [hF] at this; have:(0:Int)≤d∧(d:Int)≤5:=this; omega
 have hl2:(V.nd i).l≠-2:=by unfold upN at hu; simpa using hu
 obtain ⟨W,HW⟩:∃ W,Hid (w.alloc (.cells #[.int .i64 (f:Int),.int .i64 (i:Int),.int .i64 (d:Int),.int .i64 (k:Int),.int .i64 (a:Int),.bool y,.int .i64 (ph:Int),.int .i64 (pr:Int),.int .i64 (pa:Int)] 125)=W):=⟨_,rfl⟩
 have HB:Hid (Below w.heap.size w W):=by rw [← HW.out]; exact (Below.refl _ _).alloc (Nat.le_refl _) _
 have HR:Hid (W.heap[w.heap.size]? = some (.cells #[.int .i64 (f:Int),.int .i64 (i:Int),.int .i64 (d:Int),.int .i64 (k:Int),.int .i64 (a:Int),.bool y,.int .i64 (ph:Int),.int .i64 (pr:Int),.int .i64 (pa:Int)] 125 (0,0))):=by rw [← HW.out]; exact heap_alloc_new w _
 obtain ⟨b0,b1,b2,b3,b4,b5,b6,b7,b8⟩:=nine HR.out
 have H0:=hid h
 have H1:=hid (h.later HB.out)
 have HI:=hid hi
 have HU:=hid hu
 have HFI:=hid hf
 have HF:=hid hF
 obtain ⟨-,c1,-,-,-⟩:=H1.out.cells
 have c2:=H1.out.ns i hi
 have hN:=H1.out.nds i hi
 obtain ⟨d0,-,-,-⟩:=hN.cells
 unfold rsV at d0
 rw [hu,if_pos rfl] at d0
 have n7:=h.n7
 have HH:=hid (hearN_hf (h.inv.nd i hi) hl2 hf (by omega))
 have HL6:=hid (oHN_off (h.inv.nd i hi) hl2 hf (by omega))
 obtain ⟨n,hn7⟩:∃ n,Hid (zs.length=n):=⟨_,rfl⟩
 rw [hn7.out] at c1 hi n7
 have hFd:F.d.toNat=d:=by rw [hF]; exact Int.toNat_natCast d
 obtain ⟨g,HG⟩:∃ g,Hid (gHN (V.nd i) F=g):=⟨_,rfl⟩
 obtain ⟨o,HO⟩:∃ o,Hid (oHN (V.nd i) F=o):=⟨_,rfl⟩
 have HG2:Hid (hearL (dlN (V.nd i) d).2 ((V.nd i).R d) k a ph=g):=by rw [← HG.out,hF]; rfl
 have HO2:Hid (pOut (dlN (V.nd i)) (V.nd i).over (V.nd i).B (V.nd i).l d g.st.ph g.st.pr g.st.at_=o):=by rw [← HO.out,← HG.out,hF]; rfl
 have HFO:Hid (frOk f i d k a ph pr pa):=by have:=hf.ok; rw [hF] at this; exact this
 have HNM:Hid (∀ e,e<6→((dlN (V.nd i)) e).1<4294967296):=fun e he=>by have:=(h.inv.nd i HI.out).nm e he; omega
 have HNS:Hid (∀ x,w.heap.size≤x→¬ In4 (Y.K i).m (Y.K i).gn (Y.K i).gs (Y.K i).r x):=fun x hx e=>by
  obtain ⟨e1,e2,e3,e4⟩:=((h.nds i HI.out).up hu).1.lts
  unfold In4 at e; omega
 have HNC:Hid (C (Y.K i).nd=100 * i+1∧C (Y.K i).t=100 * i+2∧∀ x,In4 (Y.K i).m (Y.K i).gn (Y.K i).gs (Y.K i).r x→C x=100 * i+3 ∨ C x=100 * i+4 ∨ C x=100 * i+5 ∨ C x=100 * i+7):=by
  obtain ⟨c1,c2,c3,c4,c5⟩:=(h.nds i HI.out).cu hu
  have e2:=(h.nds i HI.out).cr
  refine ⟨(h.nds i HI.out).cn,c1,fun x hx=>?_⟩
  rcases hx with rfl|rfl|rfl|rfl <;> omega
 have HND:Hid (¬ In4 (Y.K i).m (Y.K i).gn (Y.K i).gs (Y.K i).r (Y.K i).nd):=fun e=>by have:=HNC.out.2.2 _ e; have:=HNC.out.1; omega
 have HNT:Hid (¬ In4 (Y.K i).m (Y.K i).gn (Y.K i).gs (Y.K i).r (Y.K i).t):=fun e=>by have:=HNC.out.2.2 _ e; have:=HNC.out.2.1; omega
 have hW:=HW.out
 clear h hu hf hF hN hl2
 go_enter Tryz.func87,Tryz.ntmps87
 go_wp2_with fail
 go_region_held3 (fun V=>V.cell? ⟨(Y.K i).nd,0,none⟩=some (.pointer (some ⟨(Y.K i).t,0,none⟩))∧V.cell? ⟨w.heap.size,0,none⟩=some (.int .i64 (f:Int))∧V.cell? ⟨w.heap.size,1,none⟩=some (.int .i64 (i:Int))∧V.cell? ⟨w.heap.size,2,none⟩=some (.int .i64 (d:Int))∧V.cell? ⟨w.heap.size,3,none⟩=some (.int .i64 (k:Int))∧V.cell? ⟨w.heap.size,4,none⟩=some (.int .i64 (a:Int))∧V.cell? ⟨w.heap.size,5,none⟩=some (.bool y)∧V.cell? ⟨w.heap.size,6,none⟩=some (.int .i64 (ph:Int))∧V.cell? ⟨w.heap.size,7,none⟩=some (.int .i64 (pr:Int))∧V.cell? ⟨w.heap.size,8,none⟩=some (.int .i64 (pa:Int))) (go_keep) (first|(go_at_call 144; (with_reducible refine (rhear_fr (Y.K i).t (Y.K i).m (Y.K i).gb (Y.K i).gn (Y.K i).gs (Y.K i).r i f d k a ph pr pa y (V.nd i).R (dlN (V.nd i)) (V.nd i).over (V.nd i).B (V.nd i).l _ g o ((H1.out.drew.nds i HI.out).up HU.out).2 ((H1.out.drew.nds i HI.out).up HU.out).1 HNM.out HFO.out HG2.out HO2.out HNT.out).mono ?_); rintro e w4 ⟨v,rfl,ha4,hj4,hk4,hf4⟩; have q0:=keptCell hk4 d0 HND.out; have q1:=keptCell hk4 b0 (HNS.out _ (Nat.le_refl _)); have q2:=keptCell hk4 b1 (HNS.out _ (Nat.le_refl _)); have q3:=keptCell hk4 b2 (HNS.out _ (Nat.le_refl _)); have q4:=keptCell hk4 b3 (HNS.out _ (Nat.le_refl _)); have q5:=keptCell hk4 b4 (HNS.out _ (Nat.le_refl _)); have q6:=keptCell hk4 b5 (HNS.out _ (Nat.le_refl _)); have q7:=keptCell hk4 b6 (HNS.out _ (Nat.le_refl _)); have q8:=keptCell hk4 b7 (HNS.out _ (Nat.le_refl _)); have q9:=keptCell hk4 b8 (HNS.out _ (Nat.le_refl _)); have HA4:=hid (And.intro ha4 (And.intro hj4 (And.intro hk4 hf4))); clear ha4 hj4 hk4 hf4))
 clear q0 q1 q2 q3 q4 q5 q6 q7 q8 q9 b0 b1 b2 b3 b4 b5 b6 b7 b8 c1 c2 d0
 have HOE:Hid (o.e=dealL o.b.data.toList):=by have:=HH.out.e; rw [HO.out] at this; rw [this]; unfold dlN; rw [hearN_B,HO.out]; exact rfl
 have HJ4:Hid (RK w4 (Y.K i).m (Y.K i).gn (Y.K i).gs (Y.K i).r (dealL o.b.data.toList) o.over o.b o.l):=by have:=HA4.out.2.1; rw [HOE.out] at this; exact this
 have HK4:Hid (Kept (In4 (Y.K i).m (Y.K i).gn (Y.K i).gs (Y.K i).r) w w4):=(Kept.of_below HB.out).trans ((Kept.refl _ W).drew.trans HA4.out.2.2.1)
 have HFr4:Hid (FrF w4 C w.heap.size v (ansN i (V.nd i) F)):=by
  have:=AnsV.frf (w:=w4) (C:=C) (id:=i) (f:=F) (g:=g) (c:=o.c) (base:=w.heap.size) (v:=v) (by rw [HF.out]; exact HA4.out.1) (fun a cp e=>Nat.le_trans HB.out.size (HA4.out.2.2.2 a cp e)) (fun x hx=>by rcases Nat.lt_or_ge (C x) 2000 with q|q; (have:=H0.out.lt x q; omega); exact q)
  unfold ansN
  rw [HG.out,HO.out]
  exact this
 have HBD:Hid (∀ e,stN (hearN (V.nd i) F) e=(dealL o.b.data.toList e).2):=fun e=>by unfold stN dlN; rw [hearN_B,HO.out]
 have hupc:=HH.out.up
 rw [HO.out] at hupc
 rcases HH.out.c with hc|hc
 ·have hN0:=hearN_0 hc
  rw [HO.out] at hc hN0
  have hci:(o.c:Int)=0:=by omega
  have hut:upN (hearN (V.nd i) F)=true:=by rw [hupc,hc]; rfl
  rw [hci]
  have HUT:=hid hut
  have hlo:o.l≠-2:=by rw [hN0] at hut; unfold upN at hut; simpa using hut
  have HLO:=hid hlo
  have HN0:=hid hN0
  have HYS:=hid (HH.out.yes (by rw [HO.out]; exact hc))
  clear hupc hut hlo hN0 HA4
  go_wp2_with fail
  refine (rnote_any (H0.out.nt HI.out HU.out HK4.out HJ4.out) (by rw [hn7.out]; exact hi) (Nat.le_trans H0.out.bel.size HK4.out.size)).mono ?_
  rintro e w5 ⟨rfl,hn5⟩
  have HN5:=hid hn5
  clear hn5
  go_wp2_with fail
  go_ret2
  refine ⟨v,by rw [HUT.out]; rfl,?_⟩
  have hgg:∀ e,e<6→(finB (stN (V.nd i) e).ph=true→finB (dealL o.b.data.toList e).2.ph=true):=fun e he hfe=>by
   rw [← HBD.out e]
   by_cases g:e=d
   ·have q1:=HH.out.may
    have q2:=HYS.out
    rw [hFd] at q1 q2
    rw [g] at hfe ⊢
    rw [q2,fin_stays q1 hfe]
    exact hfe
   ·have:=HH.out.other e (by rw [hFd]; exact g)
    unfold stN
    rw [this]
    exact hfe
  have hev:noteL V.evs i (fun d=>finB (stN (V.nd i) d).ph) (fun d=>(dealL o.b.data.toList d).2.ph) 6=noteE V.evs i d (stN (V.nd i) d).ph (stN (hearN (V.nd i) F) d).ph:=by
   rw [HBD.out d]
   refine noteL_one hd (fun e he hne=>?_) rfl (fun hfe=>?_)
   ·show finB (stN (V.nd i) e).ph=finB (dealL o.b.data.toList e).2.ph
    rw [← HBD.out e]
    have:=HH.out.other e (by rw [hFd]; exact hne)
    unfold stN
    rw [this]
   ·show (dealL o.b.data.toList d).2.ph=_
    rw [← HBD.out d]
    have q1:=HH.out.may
    have q2:=HYS.out
    rw [hFd] at q1 q2
    rw [q2]
    exact fin_stays q1 hfe
  have hn6:=HN5.out
  rw [hev] at hn6
  have hX:XI zs { setNd V i (hearN (V.nd i) F) with evs:=noteE V.evs i d (stN (V.nd i) d).ph (stN (hearN (V.nd i) F) d).ph } (m+1):=(H0.out.inv.node HH.out.ni (Nat.le_succ _)).noteE
  have hout:=H0.out.heardOut (m':=m+1) HI.out HU.out HLO.out HK4.out HJ4.out hn6 (fun e he=>noteG_six he (hgg e he)) (Nat.le_succ _) (by rw [← HN0.out]; exact hX)
  rw [← HN0.out,← hearX_0 hFd] at hout
  obtain ⟨C',Y',x1,x2,x3,x4,x5⟩:=hout
  exact ⟨C',Y',x1,x2,x3,fun x hx=>x4 x (Nat.lt_of_lt_of_le hx HK4.out.size),HFr4.out.kept x5 x4⟩
 ·have hN6:=hearN_6 hc
  have hl6:=HL6.out hc
  rw [HO.out] at hc hN6 hl6
  have hci:(o.c:Int)=6:=by omega
  have huf:upN (hearN (V.nd i) F)=false:=by rw [hupc,hc]; rfl
  rw [hci]
  have HUF:=hid huf
  have HSame:Hid (∀ e,e<6→finB (dealL o.b.data.toList e).2.ph=finB (stN (V.nd i) e).ph):=fun e he=>by
   rw [← HBD.out e]
   by_cases g:e=d
   ·have:=HH.out.no (by rw [HO.out]; exact hc)
    rw [hFd] at this
    rw [g]
    unfold stN
    rw [this]
   ·have:=HH.out.other e (by rw [hFd]; exact g)
    unfold stN
    rw [this]
  have HS6:Hid (stN (hearN (V.nd i) F) d=stN (V.nd i) d):=by
   have:=HH.out.no (by rw [HO.out]; exact hc)
   rw [hFd] at this
   show stN _ _=_
   unfold stN
   rw [this]
  have HRow:=hid (HK4.out.row (H0.out.nds i HI.out).row HND.out)
  have HN6:=hid hN6
  have HL:=hid hl6
  have HC6:=hid hc
  clear hupc huf hN6 HA4 hl6
  go_wp2_with fail
  refine (rfall_any HRow.out).mono ?_
  rintro e w5 ⟨rfl,rfl⟩
  go_wp2_with fail
  go_ret2
  refine ⟨.slice none 0 0,by rw [HUF.out]; rfl,?_⟩
  have hRP:=HJ4.out.rp
  rw [HL.out] at hRP
  have hni:=HH.out.ni
  have e6:hearN (V.nd i) F=fallN { V.nd i with B:=o.b,over:=o.over }:=HN6.out
  have hout:=H0.out.fell (m':=m+1) (ov:=o.over) HI.out HK4.out (fun x hx=>by have:=HNC.out.2.2 x hx; omega) hRP HSame.out (Nat.le_succ _) (by rw [← e6]; exact hni)
  rw [← e6] at hout
  have hx:hearX V i F=setNd V i (hearN (V.nd i) F):=by rw [hearX_0 hFd,HS6.out,noteE_same]; rfl
  rw [hx]
  obtain ⟨C',Y',x1,x2,x3,x4⟩:=hout
  refine ⟨C',Y',x1,x2,x3,x4,?_⟩
  have:ansN i (V.nd i) F=[]:=by unfold ansN; rw [HO.out,if_neg (fun q=>by have:=HC6.out; omega)]
  rw [this]
  exact FrF.nil _ _ _
end
theorem fr_one {w:World} {b:Nat} {F:F9} (h:w.heap[b]? = some (.cells (f9L F).toArray 125 (0,0))):IsFr w (.slice (some ⟨b,0,none⟩) 1 1) [F]:=by
 refine ⟨_,1,rfl,fun i hi=>⟨b,0,rfl,fun j hj=>?_⟩⟩
 have hi0:i=0:=by simp only [List.length_cons,List.length_nil] at hi; omega
 subst hi0
 rw [cell_of_row _ _ _ _ _ _ h]
 simp only [Nat.zero_mul,Nat.zero_add,List.getElem_cons_zero,List.getElem?_toArray]
theorem twice_list {α:Type} (L:List α) (k:Nat) (hk:k<L.length):L.take (k+1) ++ [L[k]'hk] ++ L.drop (k+1)=L.take k ++ (L[k]'hk) :: L.drop k:=by
 rw [List.take_succ_eq_append_getElem hk,List.drop_eq_getElem_cons hk]
 simp only [List.append_assoc,List.cons_append,List.nil_append]
section
variable {w0 w w':World} {C C':Nat→Nat} {Y:YB} {aw:Option Addr} {cap m m':Nat} {zs:List Int} {V V':PX}
theorem rtwice_no (s:Int) (h:RW w0 w C Y aw cap zs V m) (hs:¬ (0≤s∧s<V.fly.length)) (hm:m≤100000000) :
  Calls Tryz.prog 29 #[.pointer (some ⟨Y.xb,0,none⟩),.int .i64 s] w fun e w'=>e=.returned (.int .i64 4)∧w'=w:=by
 obtain ⟨a,c,hv⟩:=h.flyForm
 have c3:=(h.cells).2.2.2.1
 rw [hv] at c3
 have hbig:V.fly.length≤1000000000000:=by have:=h.inv.fl; omega
 obtain ⟨n,hn⟩:∃ n,Hid (V.fly.length=n):=⟨_,rfl⟩
 rw [hn.out] at c3 hs hbig
 clear h hv
 by_cases hneg:s<0
 ·go_enter Tryz.func29,Tryz.ntmps29
  go_wp2_with fail
  go_ret
  exact ⟨rfl,rfl⟩
 ·have hge:(n:Int)≤s:=by omega
  go_enter Tryz.func29,Tryz.ntmps29
  go_wp2_with fail
  go_ret
  exact ⟨rfl,rfl⟩
theorem rtwice_ok (k:Nat) (F:F9) (h:RW w0 w C Y aw cap zs V m) (hk:k<V.fly.length) (hF:V.fly[k]'hk=F) (hm:m≤100000000) :
  Calls Tryz.prog 29 #[.pointer (some ⟨Y.xb,0,none⟩),.int .i64 (k:Int)] w fun e w'=>e=.returned (.int .i64 0)∧ROut w0 w w' C Y aw cap zs (twiceX V k F) (m+1):=by
 obtain ⟨g,cp,cur,hv,hbg,hrow,hnc,hcm,hcs,htk⟩:∃ g cp,∃ cur:Array Value,Y.fv=.slice (some ⟨g,0,none⟩) V.fly.length cp∧w0.heap.size≤g∧w.heap[g]? = some (.cells cur 125 (0,0))∧V.fly.length≤cp∧cp≤maxLen∧cur.size=cp * 9∧cur.toList.take (V.fly.length * 9)=frCells V.fly:=by
  rcases h.fly.2 with ⟨-,h0⟩|h1
  ·omega
  ·exact h1
 have HFr:=hid (IsFr.owned h.fly)
 rw [hv] at HFr
 have hcl:∀ j,j<9→w.cell? ⟨g,k * 9+j,none⟩=(f9L F)[j]?:=fun j hj=>by
  rw [← hF,cell_of_row _ _ _ _ _ _ hrow,← frCells_get V.fly k j hk hj,← htk,List.getElem?_take_of_lt (by omega),Array.getElem?_toList]
 have HMem:Hid (F∈V.fly):=by rw [← hF]; exact List.getElem_mem _
 have HLs:Hid (V.fly.take (k+1) ++ [F] ++ V.fly.drop (k+1)=V.fly.take k ++ F :: V.fly.drop k):=by rw [← hF]; exact twice_list _ _ hk
 obtain ⟨ff,ft,fd,fk,fa,fy,fh,fp,fq⟩:=F
 have H:=hid h
 obtain ⟨n,hn⟩:∃ n,Hid (V.fly.length=n):=⟨_,rfl⟩
 have hbig:V.fly.length≤100000000000:=by have:=h.inv.fl; omega
 have c3:=(h.cells).2.2.2.1
 rw [hv] at c3
 have HT1:=hid (fr_take (c:=cp) (k:=k+1) HFr.out hk)
 obtain ⟨o2,ho2⟩:∃ o2,o2=if cp=k+1 then 0 else (k+1) * 9:=⟨_,rfl⟩
 have HT2:=hid (fr_drop (c:=cp - (k+1)) (o2:=o2) (k:=k+1) HFr.out hk (fun hx=>by rw [ho2,if_neg (by omega)]; omega))
 have hA1:(if cp=k+1 then some (⟨g,0,none⟩:Addr) else some ⟨g,(k+1) * 9,none⟩)=some ⟨g,o2,none⟩:=by rw [ho2]; split <;> rfl
 have htl:(V.fly.take (k+1)).length=k+1:=by rw [List.length_take]; omega
 have hdl:(V.fly.drop (k+1)).length=V.fly.length - (k+1):=by rw [List.length_drop]
 obtain ⟨LT,HLT⟩:∃ LT,Hid (V.fly.take (k+1)=LT):=⟨_,rfl⟩
 obtain ⟨LD,HLD⟩:∃ LD,Hid (V.fly.drop (k+1)=LD):=⟨_,rfl⟩
 rw [HLT.out] at HT1 HLs htl
 rw [HLD.out] at HT2 HLs hdl
 rw [hn.out] at c3 hk hbig hnc hdl HT2
 have hw1:IntKind.i64.wrap ((k:Int)+1)=(k:Int)+1:=by rw [IntKind.wrap_i64]; omega
 have hb1:(0:Int)≤(k:Int)+1:=by omega
 have hb2:(k:Int)+1≤(n:Int):=by omega
 have hb3:(k:Int)+1≤(cp:Int):=by omega
 have hb4:((k:Int)+1).toNat=k+1:=by omega
 have hlx:=row_ltJ h.row
 have HLtl:=hid htl
 have HLdl:=hid hdl
 have HX3:Hid (∀ w3,w.grownBy w3 none→w3.cell? ⟨Y.xb,3,none⟩=some (.slice (some ⟨g,0,none⟩) n cp)∧Below w.heap.size w w3∧∀ j,j<9→w3.cell? ⟨g,k * 9+j,none⟩=(f9L ⟨ff,ft,fd,fk,fa,fy,fh,fp,fq⟩)[j]?):=by
  intro w3 hg
  have hb:Below w.heap.size w w3:=Below.grown (Below.refl _ _) hg (Nat.le_refl _) (fun j hj=>by cases hj)
  refine ⟨cell_later hb c3,hb,fun j hj=>?_⟩
  have q:=hcl j hj
  have hr:w3.heap[g]? = some (.cells cur 125 (0,0)):=(hb.block _ (row_ltJ hrow)).trans hrow
  rw [cell_of_row _ _ _ _ _ _ hrow] at q
  rw [cell_of_row _ _ _ _ _ _ hr,q]
 have HV:=hid hv
 have HM:=hid hm
 clear h hv hbg hrow hcm hcs htk hcl hF ho2 htl hdl hm
 have HGo:Hid (∀ (v:Value) (wa wb:World) (q:Nat) (ys:List Value),wa.ownsRow w.heap.size 125 9 v q ys→Below w.heap.size w wa→wa.grownBy wb v.ownBlock→wb.cell? ⟨Y.xb,3,none⟩=some (.slice (some ⟨g,0,none⟩) n cp)∧wb.frozen? ⟨Y.xb,3,none⟩=false∧Below w.heap.size w wb):=by
  intro v wa wb q ys ho hb hg
  have hb4:Below w.heap.size w wb:=Below.grown hb hg hb.size (fun j hj=>(ho.lt j hj).1)
  exact ⟨cell_later hb4 c3,frozen_of_row _ _ _ _ _ ((H.out.later hb4).row),hb4⟩
 have HEnd:Hid (∀ (v4:Value) (w4:World),w4.ownsRow w.heap.size 125 9 v4 (k+1+1+(n - (k+1))) (frCells LT ++ frCells [⟨ff,ft,fd,fk,fa,fy,fh,fp,fq⟩] ++ frCells LD)→Below w.heap.size w w4→ROut w0 w (w4.setCell ⟨Y.xb,3,none⟩ v4) C Y aw cap zs (twiceX V k ⟨ff,ft,fd,fk,fa,fy,fh,fp,fq⟩) (m+1)):=by
  intro v4 w4 ho hb
  have hel:(V.fly.take k ++ ⟨ff,ft,fd,fk,fa,fy,fh,fp,fq⟩ :: V.fly.drop k).length=k+1+1+(n - (k+1)):=by rw [← HLs.out,List.length_append,List.length_append,HLtl.out,HLdl.out]; rfl
  refine H.out.framed (F:=V.fly.take k ++ ⟨ff,ft,fd,fk,fa,fy,fh,fp,fq⟩ :: V.fly.drop k) (S:=fun _=>False) (Kept.of_below hb) (fun _ x=>x.elim) ?_ ?_ (Nat.le_succ _) (H.out.inv.twice HMem.out)
  ·rw [hel,← HLs.out,frCells_append,frCells_append]
   exact own_lower ho H.out.bel.size
  ·cases hob:v4.ownBlock with
   | none=>exact .inl rfl
   | some g4=>exact .inr (.inr ⟨g4,rfl,(ho.lt g4 hob).1⟩)
 have HX4:Hid (∀ (v3:Value) (w3:World) (ys:List Value),w3.ownsRow w.heap.size 125 9 v3 (k+1) ys→Below w.heap.size w w3→(w3.alloc (.cells #[.int .i64 ff,.int .i64 ft,.int .i64 fd,.int .i64 fk,.int .i64 fa,.bool fy,.int .i64 fh,.int .i64 fp,.int .i64 fq] 125)).ownsRow w.heap.size 125 9 v3 (k+1) ys∧Below w.heap.size w (w3.alloc (.cells #[.int .i64 ff,.int .i64 ft,.int .i64 fd,.int .i64 fk,.int .i64 fa,.bool fy,.int .i64 fh,.int .i64 fp,.int .i64 fq] 125))∧IsFr (w3.alloc (.cells #[.int .i64 ff,.int .i64 ft,.int .i64 fd,.int .i64 fk,.int .i64 fa,.bool fy,.int .i64 fh,.int .i64 fp,.int .i64 fq] 125)) (.slice (some ⟨w3.heap.size,0,none⟩) 1 1) [⟨ff,ft,fd,fk,fa,fy,fh,fp,fq⟩]):=by
  intro v3 w3 ys ho hb
  exact ⟨own_kept ho (Kept.of_below (S:=fun _=>False) (alloc9 w3 ff ft fd fk fa fy fh fp fq)) (fun _ _ e=>e),hb.alloc hb.size _,fr_one (heap_alloc_new w3 _)⟩
 go_enter Tryz.func29,Tryz.ntmps29
 go_wp2_with (first
  | (at_builtin; refine wpList_append_frs rfl _ _ rfl w.heap.size 0 (.slice none 0 0) (.slice (some ⟨g,0,none⟩) (k+1) cp) [] LT rfl rfl (World.ownsRow_nil _ _ _ _) HT1.out (by rw [HLtl.out]; omega) (Nat.le_refl _) ?_; rw [HLtl.out,Nat.zero_add,List.nil_append]; intro ad' cap' w3 hown hg _; obtain ⟨c3W3,hb3',hcl3⟩:=HX3.out w3 hg; obtain ⟨y0,y1,y2,y3,y4,y5,y6,y7,y8⟩:=nineO (o:=k * 9) hcl3; simp only at y0 y1 y2 y3 y4 y5 y6 y7 y8; have HS3:=hid (HX4.out _ w3 _ hown hb3'); clear hown hg hb3' hcl3)
  | (at_builtin; refine wpList_append_frs rfl _ _ rfl w.heap.size (k+1) (.slice ad' (k+1) cap') (.slice (some ⟨w3.heap.size,0,none⟩) 1 1) (frCells LT) [⟨ff,ft,fd,fk,fa,fy,fh,fp,fq⟩] rfl rfl HS3.out.1 HS3.out.2.2 (by rw [List.length_singleton]; omega) HS3.out.2.1.size ?_; rw [List.length_singleton]; intro ad4 cap4 w4 hown4 hg4 _; obtain ⟨c3W4,-,hb4'⟩:=HGo.out _ _ w4 _ _ HS3.out.1 HS3.out.2.1 hg4; have HS4:=hid (And.intro hown4 hb4'); clear hown4 hg4 hb4')
  | (at_builtin; refine wpList_append_frs rfl _ _ rfl w.heap.size (k+1+1) (.slice ad4 (k+1+1) cap4) (.slice (some ⟨g,o2,none⟩) (n - (k+1)) (cp - (k+1))) _ LD rfl rfl HS4.out.1 (HT2.out.later HS4.out.2) (by rw [HLdl.out]; omega) HS4.out.2.size ?_; rw [HLdl.out]; intro ad5 cap5 w5 hown5 hg5 _; obtain ⟨c3W5,z3W5,hb5⟩:=HGo.out _ w4 w5 _ _ HS4.out.1 HS4.out.2 hg5; have HS5:=hid (HEnd.out _ w5 hown5 hb5); clear hown5 hg5 hb5))
 go_ret
 exact ⟨rfl,HS5.out⟩
end
theorem twoCells_get:∀ (L:List (Nat×Nat)) (i j:Nat) (h:i<L.length),j<2→(twoCells L)[i * 2+j]? = (twoL (L[i]'h))[j]?
 | [],i,_,h,_=>absurd h (Nat.not_lt_zero _)
 | x :: L,0,j,_,hj=>by
  show (twoL x ++ twoCells L)[0 * 2+j]? = _
  rw [Nat.zero_mul,Nat.zero_add,List.getElem?_append_left (by show j<2; exact hj)]
  rfl
 | x :: L,i+1,j,h,hj=>by
  show (twoL x ++ twoCells L)[(i+1) * 2+j]? = _
  rw [List.getElem?_append_right (by show 2≤_; omega),show (i+1) * 2+j - (twoL x).length=i * 2+j by show _ - 2=_; omega]
  exact twoCells_get L i j (by simpa using h) hj
theorem two_plain:Tryz.prog.plainKey 3=true:=by kernel_rfl
theorem two_under:Tryz.prog.underlying 131=some (.array 2 3):=by kernel_rfl
theorem two_cellsX:Tryz.prog.cellsOf 3=1:=by kernel_rfl
theorem two_int:Tryz.prog.underlying 3=some (.int .i64):=by kernel_rfl
theorem two_info:(Tryz.prog.info? 3).isSome=true:=by kernel_rfl
theorem two_equal (x y a b:Int) (w:World):(Op.equalIn (9999+1) 131 (.agg #[.int .i64 x,.int .i64 y]) (.agg #[.int .i64 a,.int .i64 b])).run Tryz.prog w=.ok (decide (x=a∧y=b)) w:=by
 obtain ⟨i,hi⟩:=Option.isSome_iff_exists.1 two_info
 rw [run_equalIn_array w 9999 _ _ two_under hi,two_cellsX]
 have p0:∀ (u v:Int) w,(part 3 #[.int .i64 u,.int .i64 v] (0 * 1)).run Tryz.prog w=.ok (.int .i64 u) w:=fun u v w=>run_part_plain w two_plain rfl
 have p1:∀ (u v:Int) w,(part 3 #[.int .i64 u,.int .i64 v] 1).run Tryz.prog w=.ok (.int .i64 v) w:=fun u v w=>run_part_plain w two_plain rfl
 have q:∀ (u v:Int) w,(Op.equalIn 9999 3 (.int .i64 u) (.int .i64 v)).run Tryz.prog w=.ok (u == v) w:=fun u v w=>run_equalIn_int w 9998 _ _ _ u v two_int
 show (Op.eqItems 9999 3 1 _ _ [0,1]).run Tryz.prog w=_
 simp only [Op.eqItems,Sem.run_bind,p0,q,Result.andThen_ok]
 by_cases h0:x=a <;> by_cases h1:y=b <;> simp [h0,h1,p1,q]
theorem two_eq (x y a b:Int) (w:World):(binOp .eql 131 (.agg #[.int .i64 x,.int .i64 y]) (.agg #[.int .i64 a,.int .i64 b])).run Tryz.prog w=.ok (.bool (decide (x=a∧y=b))) w:=by
 have h:=two_equal x y a b w
 rw [show 9999+1=10000 from rfl] at h
 go_simp
section
variable {w0 w w':World} {C C':Nat→Nat} {Y:YB} {aw:Option Addr} {cap m m':Nat} {zs:List Int} {V V':PX}
theorem own_two {base n:Nat} {v:Value} {L:List (Nat×Nat)} (h:w.ownsRow base 131 2 v n (twoCells L)) (hn:L.length=n):∃ a c,v=.slice a n c∧∀ i (hi:i<L.length),∃ g,a=some ⟨g,0,none⟩∧w.cell? ⟨g,i * 2,none⟩=some (.int .i64 ((L[i]'hi).1:Int))∧w.cell? ⟨g,i * 2+1,none⟩=some (.int .i64 ((L[i]'hi).2:Int)):=by
 rcases h.2 with ⟨h1,h0⟩|⟨g,cp,cur,h1,hb,hr,h4,h5,h6,h7⟩
 ·exact ⟨none,0,by rw [h1,h0],fun i hi=>by omega⟩
 ·refine ⟨_,_,h1,fun i hi=>⟨g,rfl,?_,?_⟩⟩
  ·rw [cell_of_row _ _ _ _ _ _ hr,← Array.getElem?_toList,← List.getElem?_take_of_lt (j:=n * 2) (by omega),h7]
   exact twoCells_get L i 0 hi (by omega)
  ·rw [cell_of_row _ _ _ _ _ _ hr,← Array.getElem?_toList,← List.getElem?_take_of_lt (j:=n * 2) (by omega),h7]
   exact twoCells_get L i 1 hi (by omega)
theorem mem_upto {L:List (Nat×Nat)} {p:Nat×Nat→Prop} (h:∀ i (hi:i<L.length),¬ p (L[i]'hi)):¬ ∃ x,x∈L∧p x:=by
 rintro ⟨x,hx,hp⟩
 obtain ⟨i,hi,rfl⟩:=List.getElem_of_mem hx
 exact h i hi hp
theorem rbroken_l (a b:Nat) (L:List (Nat×Nat)) (h:RW w0 w C Y aw cap zs V m) (hL:w.ownsRow w0.heap.size 131 2 Y.bv L.length (twoCells L)) (hl:L.length≤1000000000) :
  Calls Tryz.prog 93 #[.pointer (some ⟨Y.xb,0,none⟩),.int .i64 (a:Int),.int .i64 (b:Int)] w fun e w'=>e=.returned (.bool (decide ((a,b)∈L ∨ (b,a)∈L)))∧w'=w:=by
 obtain ⟨ad,c,hv,hc⟩:=own_two hL rfl
 have c2:=(h.cells).2.2.1
 rw [hv] at c2
 have HC:=hid hc
 obtain ⟨n,hn⟩:∃ n,Hid (L.length=n):=⟨_,rfl⟩
 rw [hn.out] at c2 hl
 clear h hL hv hc
 go_enter Tryz.func93,Tryz.ntmps93
 go_wp2_with fail
 go_loopw [7] (fun v wr=>∃ k:Nat,k≤n∧v=.int .i64 (k:Int)∧wr=w∧∀ i (hi:i<L.length),i<k→¬ (L[i]'hi=(a,b) ∨ L[i]'hi=(b,a))) (fun v _=>n - (intOf v).toNat)
 case atStart=>exact ⟨0,Nat.zero_le _,rfl,rfl,fun _ _ hj=>absurd hj (Nat.not_lt_zero _)⟩
 case round =>
  obtain ⟨k,hk,rfl,hwr,hno⟩:=hrel
  subst hwr
  have HNo:=hid hno
  clear hno
  by_cases hlt:k<n
  ·have hkL:k<L.length:=by rw [hn.out]; exact hlt
   obtain ⟨g,rfl,d0,d1⟩:=HC.out k hkL
   obtain ⟨⟨x,y⟩,HE⟩:∃ e,Hid (L[k]'hkL=e):=⟨_,rfl⟩
   rw [HE.out] at d0 d1
   simp only at d0 d1
   obtain ⟨p,HP⟩:∃ p,Hid (decide ((x:Int)=(a:Int)∧(y:Int)=(b:Int))=p):=⟨_,rfl⟩
   obtain ⟨q,HQ⟩:∃ q,Hid (decide ((x:Int)=(b:Int)∧(y:Int)=(a:Int))=q):=⟨_,rfl⟩
   have hp:∀ w,(binOp .eql 131 (.agg #[.int .i64 (x:Int),.int .i64 (y:Int)]) (.agg #[.int .i64 (a:Int),.int .i64 (b:Int)])).run Tryz.prog w=.ok (.bool p) w:=fun w=>by rw [← HP.out]; exact two_eq _ _ _ _ w
   have hq:∀ w,(binOp .eql 131 (.agg #[.int .i64 (x:Int),.int .i64 (y:Int)]) (.agg #[.int .i64 (b:Int),.int .i64 (a:Int)])).run Tryz.prog w=.ok (.bool q) w:=fun w=>by rw [← HQ.out]; exact two_eq _ _ _ _ w
   cases p with
   | true =>
    have h1:=of_decide_eq_true HP.out
    have hmem:(a,b)∈L:=by
     rw [show (a,b)=L[k]'hkL by rw [HE.out,Prod.mk.injEq]; omega]; exact List.getElem_mem _
    have HM:Hid (decide ((a,b)∈L ∨ (b,a)∈L)=true):=decide_eq_true (.inl hmem)
    clear h1 hmem
    go_wp2_with fail
    go_ret
    exact ⟨by rw [HM.out]; rfl,rfl⟩
   | false =>
    cases q with
    | true =>
     have h1:=of_decide_eq_true HQ.out
     have hmem:(b,a)∈L:=by
      rw [show (b,a)=L[k]'hkL by rw [HE.out,Prod.mk.injEq]; omega]; exact List.getElem_mem _
     have HM:Hid (decide ((a,b)∈L ∨ (b,a)∈L)=true):=decide_eq_true (.inr hmem)
     clear h1 hmem
     go_wp2_with fail
     go_ret
     exact ⟨by rw [HM.out]; rfl,rfl⟩
    | false =>
     go_wp2_with fail
     go_roundw
     case rel =>
      refine ⟨k+1,by omega,by go_num,trivial,fun j hj hjk=>?_⟩
      by_cases e:j=k
      ·subst e
       rw [HE.out]
       have h1:=of_decide_eq_false HP.out
       have h2:=of_decide_eq_false HQ.out
       rw [Prod.mk.injEq,Prod.mk.injEq]
       omega
      ·exact HNo.out j hj (by omega)
     case measure=>simp [intOf]; omega
  ·obtain rfl:k=n:=by omega
   have HM:Hid (decide ((a,b)∈L ∨ (b,a)∈L)=false):=decide_eq_false (fun hm=>mem_upto (p:=fun x=>x=(a,b) ∨ x=(b,a)) (fun i hi=>HNo.out i hi (by rw [← hn.out]; exact hi)) (by
    rcases hm with q|q
    ·exact ⟨_,q,.inl rfl⟩
    ·exact ⟨_,q,.inr rfl⟩))
   go_wp2_with fail
   go_ret
   exact ⟨by rw [HM.out]; rfl,rfl⟩
theorem rbroken_is (a b:Nat) (h:RW w0 w C Y aw cap zs V m) (ha:a<7) (hb:b<7) (hm:m≤100000000) :
  Calls Tryz.prog 93 #[.pointer (some ⟨Y.xb,0,none⟩),.int .i64 (a:Int),.int .i64 (b:Int)] w fun e w'=>e=.returned (.bool (!(decide (a=b) || !brX V a b)))∧w'=w:=by
 obtain ⟨L,h1,h2,h3⟩:=h.brk
 refine (rbroken_l a b L h h1 (by omega)).mono ?_
 rintro e w' ⟨rfl,rfl⟩
 refine ⟨?_,rfl⟩
 congr 2
 by_cases e:a=b
 ·subst e
  have:¬ ((a,a)∈L ∨ (a,a)∈L):=fun q=>by
   rcases q with q|q <;> exact h2.2 _ q rfl
  rw [decide_eq_false this]; simp
 ·have:=h2.1 a b ha hb e
  cases hx:brX V a b with
  | true=>rw [hx] at this; rw [decide_eq_true (this.1 rfl)]; simp [e]
  | false=>rw [hx] at this; rw [decide_eq_false (fun q=>by cases this.2 q)]; simp
end
theorem Tryz.infoTwo:(Tryz.prog.info? 131).map (fun i=>(i.zero,i.size,i.bytes))=some (some (.agg #[.int .i64 0,.int .i64 0]),2,16):=by kernel_rfl
theorem two_one (x:Nat×Nat):∀ u∈twoL x,u.oneCell'=true:=by
 intro u hu
 simp [twoL] at hu
 rcases hu with rfl|rfl <;> rfl
theorem wpList_append_two {w:World} {ops:Array Oper} {rest:List Oper} {o:Oper} {a:Act} {Q:Exit→Act→World→Prop} (hgd:o.guard=none) (s x:Operand)
  (ho:o.op=.call { callee:=.builtin .append,args:=#[s,x],argTypes:=#[54,54] })
  (base n:Nat) (v:Value) (ad:Addr) (c:Nat) (xs:List Value) (e:Nat×Nat) (hs:a.eval s=v) (hx:a.eval x=.slice (some ad) 1 c) (hown:w.ownsRow base 131 2 v n xs) (hu:∀ j u,(twoL e)[j]? = some u→w.cell? (ad.add j)=some u) (hn:n≤1000000000000) (hb:base≤w.heap.size)
  (h:∀ ad' cap' w',w'.ownsRow base 131 2 (.slice ad' (n+1) cap') (n+1) (xs ++ twoL e)→w.grownBy w' v.ownBlock→wpList Tryz.prog ops Q rest (a.put o.dst (.slice ad' (n+1) cap')) w') :
  wpList Tryz.prog ops Q (o :: rest) a w:=by
 obtain ⟨i0,hi0,hz0,hz1,hz2⟩:=info_parts Tryz.infoTwo
 refine wpList_append_own_at w hgd s x 54 ho base 131 i0 _ 2 16 Tryz.underlying54 hi0 hz0 hz1 hz2 rfl (by decide) v n xs hs hown ad 1 c (twoL e) hx rfl hu (two_one e) (by unfold maxLen; omega) (by omega) hb ?_
 intro v' w' h2 h3 _ h5
 obtain ⟨ad',cap',rfl⟩:∃ ad' cap',v'=.slice ad' (n+1) cap':=by
  rcases h2.2 with ⟨e,h0⟩|⟨g,cap,cur,e,-⟩
  ·exact ⟨none,0,by rw [e,h0]⟩
  ·exact ⟨_,_,e⟩
 exact h ad' cap' w' h2 h3
theorem two_ne (x y a b:Int) (w:World):(binOp .neq 131 (.agg #[.int .i64 x,.int .i64 y]) (.agg #[.int .i64 a,.int .i64 b])).run Tryz.prog w=.ok (.bool (!decide (x=a∧y=b))) w:=by
 have h:=two_equal x y a b w
 rw [show 9999+1=10000 from rfl] at h
 go_simp
def keepL (a b:Nat) (L:List (Nat×Nat)):List (Nat×Nat):=L.filter (fun x=>decide (x≠(a,b)) && decide (x≠(b,a)))
def linkL (a b:Nat) (whole:Bool) (L:List (Nat×Nat)):List (Nat×Nat):=keepL a b L ++ if whole=false∧a≠b then [(a,b)] else []
theorem mem_keepL {a b:Nat} {L:List (Nat×Nat)} {x:Nat×Nat}:x∈keepL a b L ↔ x∈L∧x≠(a,b)∧x≠(b,a):=by
 unfold keepL
 rw [List.mem_filter,Bool.and_eq_true,decide_eq_true_iff,decide_eq_true_iff]
theorem brkI_link {V:PX} {L:List (Nat×Nat)} {a b:Nat} {whole:Bool} (h:BrkI V L):BrkI (linkX V a b whole) (linkL a b whole L):=by
 have hmem:∀ x,x∈linkL a b whole L ↔ (x∈L∧x≠(a,b)∧x≠(b,a)) ∨ (whole=false∧a≠b)∧x=(a,b):=fun x=>by
  unfold linkL
  rw [List.mem_append,mem_keepL]
  by_cases g:whole=false∧a≠b
  ·rw [if_pos g,List.mem_singleton]; simp only [g,true_and,ne_eq,not_false_eq_true]
  ·rw [if_neg g]; simp only [g,false_and,List.not_mem_nil]
 refine ⟨fun x y hx hy hne=>?_,fun x hx=>?_⟩
 ·rw [hmem,hmem]
  have h0:=h.1 x y hx hy hne
  show (if min x y=min a b∧max x y=max a b then !whole else V.br (min x y) (max x y))=true ↔ _
  simp only [Prod.mk.injEq,ne_eq]
  by_cases g:min x y=min a b∧max x y=max a b
  ·rw [if_pos g]
   have g':(x=a∧y=b) ∨ (x=b∧y=a):=by omega
   have hab:a≠b:=by omega
   cases whole with
   | true =>
    simp only [Bool.not_true,Bool.false_eq_true,false_iff,Bool.true_eq_false,false_and,or_false]
    rcases g' with ⟨rfl,rfl⟩|⟨rfl,rfl⟩ <;> simp
   | false =>
    simp only [Bool.not_false,true_iff,true_and]
    rcases g' with ⟨rfl,rfl⟩|⟨rfl,rfl⟩
    ·exact .inl (.inr ⟨hab,rfl,rfl⟩)
    ·exact .inr (.inr ⟨hab,rfl,rfl⟩)
  ·rw [if_neg g]
   have g1:¬ (x=a∧y=b):=by omega
   have g2:¬ (x=b∧y=a):=by omega
   have g3:¬ (y=a∧x=b):=by omega
   have g4:¬ (y=b∧x=a):=by omega
   rw [show V.br (min x y) (max x y)=brX V x y from rfl,h0]
   simp only [g1,g2,g3,g4,not_false_eq_true,and_true,and_false,or_false]
 ·rcases (hmem x).1 hx with ⟨g,-⟩|⟨⟨-,g⟩,rfl⟩
  ·exact h.2 x g
  ·exact g
section
variable {w0 w w':World} {C C':Nat→Nat} {Y:YB} {aw:Option Addr} {cap m m':Nat} {zs:List Int} {V V':PX}
theorem XI.linked {a b:Nat} {whole:Bool} (h:XI zs V m):XI zs (linkX V a b whole) (m+1) :=
 have i:=h.mono (Nat.le_succ m)
 ⟨i.he,i.nd,i.fr,i.fl,i.ev⟩
theorem RW.linked {a b:Nat} {whole:Bool} {Bk:List (Nat×Nat)} {v':Value} (h:RW w0 w C Y aw cap zs V m) (hb:Below w.heap.size w w') (ho:w'.ownsRow w.heap.size 131 2 v' Bk.length (twoCells Bk)) (hbi:BrkI (linkX V a b whole) Bk) (hl:Bk.length≤m+1) :
  ROut w0 w (w'.setCell ⟨Y.xb,2,none⟩ v') C Y aw cap zs (linkX V a b whole) (m+1):=by
 have hx:=row_ltJ h.row
 have hcx:=h.cx
 have hrow:w'.heap[Y.xb]? = some (.cells (rwC Y aw zs.length cap).toArray 58 (0,0)):=(hb.block _ hx).trans h.row
 have hK2:Kept (In1 Y.xb) w (w'.setCell ⟨Y.xb,2,none⟩ v'):=(Kept.of_below hb).set1 2 v'
 have hr2:(w'.setCell ⟨Y.xb,2,none⟩ v').heap[Y.xb]? = some (.cells (rwC { Y with bv:=v',fv:=Y.fv,ev:=Y.ev } aw zs.length cap).toArray 58 (0,0)):=by
  rw [heap_setCell_same w' Y.xb 2 _ _ _ hrow]; rfl
 have hf:(w'.setCell ⟨Y.xb,2,none⟩ v').ownsRow w0.heap.size 125 9 Y.fv V.fly.length (frCells V.fly):=own_kept h.fly hK2 (fun g hg e=>by
  have h6:=h.cf g hg; rw [show g=Y.xb from e] at h6; omega)
 have he:(w'.setCell ⟨Y.xb,2,none⟩ v').ownsRow w0.heap.size 77 3 Y.ev V.evs.length (evCells V.evs):=own_kept h.evs hK2 (fun g hg e=>by
  have h6:=h.ce g hg; rw [show g=Y.xb from e] at h6; omega)
 have hbb:(w'.setCell ⟨Y.xb,2,none⟩ v').ownsRow w0.heap.size 131 2 v' Bk.length (twoCells Bk):=own_lower (own_kept ho ((Kept.refl (In1 Y.xb) w').set1 2 v') (fun g hg e=>by have:=(ho.lt g hg).1; rw [show g=Y.xb from e] at this; omega)) h.bel.size
 obtain ⟨C1,hC1,hl1,hcg1⟩:∃ C1:Nat→Nat,(∀ x,x<w.heap.size→C1 x=C x)∧(∀ x,w.heap.size≤x→C1 x<2000→x<(w'.setCell ⟨Y.xb,2,none⟩ v').heap.size)∧∀ g,v'.ownBlock=some g→C1 g=1004:=by
  cases hob:v'.ownBlock with
  | none=>exact ⟨C,fun _ _=>rfl,fun x hx hc=>by have:=h.lt x hc; omega,fun g hg=>by cases hg⟩
  | some g' =>
   have hg':=ho.lt g' hob
   refine ⟨paint C g' 1004,fun x hx=>paint_ne (by omega),fun x hx hc=>?_,fun g hg=>?_⟩
   ·by_cases e:x=g'
    ·rw [e]; simpa using hg'.2
    ·rw [paint_ne e] at hc
     have:=h.lt x hc; omega
   ·obtain rfl:=Option.some.inj hg
    exact paint_at _ _ _
 refine ⟨C1,{ Y with bv:=v',fv:=Y.fv,ev:=Y.ev },?_,rfl,hK2.mono (fun x hx=>by show C x<2000; rw [show x=Y.xb from hx]; omega),hC1⟩
 exact h.own (br:=(linkX V a b whole).br) hK2 (fun x hx=>.inl (by rw [show x=Y.xb from hx]; exact hcx)) hC1 hl1 hr2 hbb hbi hl hf he hcg1 (fun g hg=>by rw [hC1 g (own_lt h.fly hg)]; exact h.cf g hg) (fun g hg=>by rw [hC1 g (own_lt h.evs hg)]; exact h.ce g hg) h.inv.linked
end
theorem keepL_step {a b k:Nat} {L:List (Nat×Nat)} (hk:k<L.length):keepL a b (L.take (k+1))=keepL a b (L.take k) ++ if (L[k]'hk)≠(a,b)∧(L[k]'hk)≠(b,a) then [L[k]'hk] else []:=by
 unfold keepL
 rw [List.take_succ_eq_append_getElem hk,List.filter_append]
 congr 1
 by_cases g:(L[k]'hk)≠(a,b)∧(L[k]'hk)≠(b,a)
 ·rw [if_pos g,List.filter_cons_of_pos (by simpa using g),List.filter_nil]
 ·rw [if_neg g,List.filter_cons_of_neg (by simpa using g),List.filter_nil]
theorem twoCells_append (L M:List (Nat×Nat)):twoCells (L ++ M)=twoCells L ++ twoCells M:=by unfold twoCells; rw [List.flatMap_append]
theorem keepL_length (a b:Nat) (L:List (Nat×Nat)):(keepL a b L).length≤L.length:=List.length_filter_le _ _
section
variable {w0 w w':World} {C C':Nat→Nat} {Y:YB} {aw:Option Addr} {cap m m':Nat} {zs:List Int} {V V':PX}
def LkR (w wr:World) (a b:Nat) (L:List (Nat×Nat)) (v:Value):Prop:=wr.ownsRow w.heap.size 131 2 v (keepL a b L).length (twoCells (keepL a b L))∧Below w.heap.size w wr
theorem rlink_ok (a b:Nat) (whole:Bool) (h:RW w0 w C Y aw cap zs V m) (ha:a<zs.length) (hb:b<zs.length) (hm:m≤100000000) :
  Calls Tryz.prog 30 #[.pointer (some ⟨Y.xb,0,none⟩),.int .i64 (a:Int),.int .i64 (b:Int),.bool whole] w fun e w'=>e=.returned (.int .i64 0)∧ROut w0 w w' C Y aw cap zs (linkX V a b whole) (m+1):=by
 obtain ⟨L,hL,hbi,hlm⟩:=h.brk
 obtain ⟨ad,c,hv,hc⟩:=own_two hL rfl
 obtain ⟨-,c1,c2,-,-⟩:=h.cells
 rw [hv] at c2
 have HC:=hid hc
 have H:=hid h
 have n7:=h.n7
 have HBI:=hid hbi
 obtain ⟨n,hn⟩:∃ n,Hid (L.length=n):=⟨_,rfl⟩
 obtain ⟨z,hz⟩:∃ z,Hid (zs.length=z):=⟨_,rfl⟩
 rw [hn.out] at c2 hlm
 rw [hz.out] at c1 ha hb n7
 clear h hL hv hc hbi
 go_enter Tryz.func30,Tryz.ntmps30
 go_wp2_with fail
 simp only [show decide ((a:Int)<0)=false from decide_eq_false (by omega),show decide ((b:Int)<0)=false from decide_eq_false (by omega),show decide (z≤a)=false from decide_eq_false (by omega),show decide (z≤b)=false from decide_eq_false (by omega),Bool.or_false]
 go_loopw [9,10] (fun v i wr=>∃ k:Nat,k≤n∧i=.int .i64 (k:Int)∧LkR w wr a b (L.take k) v) (fun _ i _=>n - (intOf i).toNat)
 case atStart=>exact ⟨0,Nat.zero_le _,rfl,World.ownsRow_nil _ _ _ _,Below.refl _ _⟩
 case round =>
  obtain ⟨k,hk,rfl,hr⟩:=hrel
  rename_i u9 _ wr _
  obtain ⟨av,cv,hu⟩:∃ av cv,u9=.slice av (keepL a b (L.take k)).length cv:=by
   rcases hr.1.2 with ⟨e,h0⟩|⟨g,cp,cur,e,-⟩
   ·exact ⟨none,0,by rw [e,h0]⟩
   ·exact ⟨_,_,e⟩
  subst hu
  have HR:=hid hr
  have c2r:=cell_later hr.2 c2
  have hwr:=hr.2.size
  clear hr
  by_cases hlt:k<n
  ·have hkL:k<L.length:=by rw [hn.out]; exact hlt
   obtain ⟨g,rfl,d0',d1'⟩:=HC.out k hkL
   have d0:=cell_later HR.out.2 d0'
   have d1:=cell_later HR.out.2 d1'
   clear d0' d1'
   have HSt:=hid (keepL_step (a:=a) (b:=b) hkL)
   obtain ⟨⟨x,y⟩,HE⟩:∃ e,Hid (L[k]'hkL=e):=⟨_,rfl⟩
   rw [HE.out] at d0 d1 HSt
   simp only at d0 d1
   obtain ⟨p,HP⟩:∃ p,Hid ((!decide ((x:Int)=(a:Int)∧(y:Int)=(b:Int)))=p):=⟨_,rfl⟩
   obtain ⟨q,HQ⟩:∃ q,Hid ((!decide ((x:Int)=(b:Int)∧(y:Int)=(a:Int)))=q):=⟨_,rfl⟩
   have hp:∀ w,(binOp .neq 131 (.agg #[.int .i64 (x:Int),.int .i64 (y:Int)]) (.agg #[.int .i64 (a:Int),.int .i64 (b:Int)])).run Tryz.prog w=.ok (.bool p) w:=fun w=>by rw [← HP.out]; exact two_ne _ _ _ _ w
   have hq:∀ w,(binOp .neq 131 (.agg #[.int .i64 (x:Int),.int .i64 (y:Int)]) (.agg #[.int .i64 (b:Int),.int .i64 (a:Int)])).run Tryz.prog w=.ok (.bool q) w:=fun w=>by rw [← HQ.out]; exact two_ne _ _ _ _ w
   cases p with
   | false =>
    have h1:x=a∧y=b:=by have:=HP.out; simp at this; omega
    have HN:Hid (LkR w wr a b (L.take (k+1)) (.slice av (keepL a b (L.take k)).length cv)):=by
     show LkR _ _ _ _ _ _
     unfold LkR
     rw [HSt.out,if_neg (fun g=>g.1 (by rw [h1.1,h1.2])),List.append_nil]; exact HR.out
    clear h1
    go_wp2_with fail
    go_roundw
    case rel=>exact ⟨k+1,by omega,by go_num,HN.out⟩
    case measure=>simp [intOf]; omega
   | true =>
    cases q with
    | false =>
     have h1:x=b∧y=a:=by have:=HQ.out; simp at this; omega
     have HN:Hid (LkR w wr a b (L.take (k+1)) (.slice av (keepL a b (L.take k)).length cv)):=by
      show LkR _ _ _ _ _ _
      unfold LkR
      rw [HSt.out,if_neg (fun g=>g.2 (by rw [h1.1,h1.2])),List.append_nil]; exact HR.out
     clear h1
     go_wp2_with fail
     go_roundw
     case rel=>exact ⟨k+1,by omega,by go_num,HN.out⟩
     case measure=>simp [intOf]; omega
    | true =>
     have h1:(x,y)≠(a,b)∧(x,y)≠(b,a):=by
      have e1:=HP.out; have e2:=HQ.out; simp at e1 e2
      rw [ne_eq,ne_eq,Prod.mk.injEq,Prod.mk.injEq]; omega
     rw [if_pos h1] at HSt
     obtain ⟨W2,HW2⟩:∃ W2,Hid (wr.alloc (.cells #[.int .i64 (x:Int),.int .i64 (y:Int)] 131)=W2):=⟨_,rfl⟩
     have hW2:=HW2.out
     have HB2:Hid (Below wr.heap.size wr W2):=by rw [← HW2.out]; exact (Below.refl _ _).alloc (Nat.le_refl _) _
     have HLc:Hid (∀ j u,(twoL (x,y))[j]? = some u→W2.cell? ((⟨wr.heap.size,0,none⟩:Addr).add j)=some u):=by rw [← HW2.out]; exact lit_cellsQ wr 131 (twoL (x,y))
     have HBw:Hid (Below w.heap.size w W2):=HR.out.2.trans (HB2.out.mono HR.out.2.size)
     have HO:Hid (W2.ownsRow w.heap.size 131 2 (.slice av (keepL a b (L.take k)).length cv) (keepL a b (L.take k)).length (twoCells (keepL a b (L.take k)))):=own_kept HR.out.1 (Kept.of_below (S:=fun _=>False) HB2.out) (fun _ _ e=>e)
     have hkl:(keepL a b (L.take k)).length≤1000000000000:=by have:=keepL_length a b (L.take k); rw [List.length_take] at this; omega
     have HX:Hid (∀ ad' cap' w',w'.ownsRow w.heap.size 131 2 (.slice ad' ((keepL a b (L.take k)).length+1) cap') ((keepL a b (L.take k)).length+1) (twoCells (keepL a b (L.take k)) ++ twoL (x,y))→W2.grownBy w' (Value.slice av (keepL a b (L.take k)).length cv).ownBlock→LkR w w' a b (L.take (k+1)) (.slice ad' ((keepL a b (L.take k)).length+1) cap')):=by
      intro ad' cap' w' ho hg
      unfold LkR
      rw [HSt.out,List.length_append,twoCells_append]
      refine ⟨?_,Below.grown HBw.out hg HBw.out.size (fun j hj=>(HO.out.lt j hj).1)⟩
      rw [show twoCells [(x,y)]=twoL (x,y) by unfold twoCells; simp]
      exact ho
     obtain ⟨kl,HK⟩:∃ kl,Hid ((keepL a b (L.take k)).length=kl):=⟨_,rfl⟩
     rw [HK.out] at HX HO hkl
     rw [HK.out]
     have hbw:=HBw.out.size
     clear h1 HR
     go_wp2_with (at_builtin; refine wpList_append_two rfl _ _ rfl w.heap.size kl (.slice av kl cv) ⟨wr.heap.size,0,none⟩ 1 _ (x,y) rfl rfl HO.out HLc.out hkl hbw ?_; intro ad' cap' w' hown hg; have HN:=hid (HX.out ad' cap' w' hown hg); clear hown hg)
     go_roundw
     case rel=>exact ⟨k+1,by omega,by go_num,HN.out⟩
     case measure=>simp [intOf]; omega
  ·obtain rfl:k=n:=by omega
   have HLt:Hid (L.take k=L):=by rw [← hn.out]; exact List.take_length
   rw [HLt.out] at HR ⊢
   have HFin:Hid (∀ (v':Value) (w':World),w'.ownsRow w.heap.size 131 2 v' (linkL a b whole L).length (twoCells (linkL a b whole L))→Below w.heap.size w w'→ROut w0 w (w'.setCell ⟨Y.xb,2,none⟩ v') C Y aw cap zs (linkX V a b whole) (m+1)):=by
    intro v' w' ho hb'
    refine H.out.linked hb' ho (brkI_link HBI.out) ?_
    have h1:=keepL_length a b L
    have h2:=hn.out
    unfold linkL
    rw [List.length_append]
    split
    ·simp only [List.length_cons,List.length_nil]; omega
    ·simp only [List.length_nil]; omega
   have hfz:=frozen_of_row _ Y.xb 2 _ _ ((H.out.later HR.out.2).row)
   by_cases hcase:whole=false∧a≠b
   ·have HLk:=hid (show linkL a b whole L=keepL a b L ++ [(a,b)] by unfold linkL; rw [if_pos hcase])
    obtain ⟨rfl,hab⟩:=hcase
    have hab':¬ (a:Int)=(b:Int):=by omega
    obtain ⟨W2,HW2⟩:∃ W2,Hid (wr.alloc (.cells #[.int .i64 (a:Int),.int .i64 (b:Int)] 131)=W2):=⟨_,rfl⟩
    have hW2:=HW2.out
    have HB2:Hid (Below wr.heap.size wr W2):=by rw [← HW2.out]; exact (Below.refl _ _).alloc (Nat.le_refl _) _
    have HLc:Hid (∀ j u,(twoL (a,b))[j]? = some u→W2.cell? ((⟨wr.heap.size,0,none⟩:Addr).add j)=some u):=by rw [← HW2.out]; exact lit_cellsQ wr 131 (twoL (a,b))
    have HBw:Hid (Below w.heap.size w W2):=HR.out.2.trans (HB2.out.mono HR.out.2.size)
    have HO:Hid (W2.ownsRow w.heap.size 131 2 (.slice av (keepL a b L).length cv) (keepL a b L).length (twoCells (keepL a b L))):=own_kept HR.out.1 (Kept.of_below (S:=fun _=>False) HB2.out) (fun _ _ e=>e)
    have hkl:(keepL a b L).length≤1000000000000:=by have:=keepL_length a b L; have:=hn.out; omega
    have HX:Hid (∀ ad' cap' w',w'.ownsRow w.heap.size 131 2 (.slice ad' ((keepL a b L).length+1) cap') ((keepL a b L).length+1) (twoCells (keepL a b L) ++ twoL (a,b))→W2.grownBy w' (Value.slice av (keepL a b L).length cv).ownBlock→w'.cell? ⟨Y.xb,2,none⟩=some (.slice ad k c)∧w'.frozen? ⟨Y.xb,2,none⟩=false∧ROut w0 w (w'.setCell ⟨Y.xb,2,none⟩ (.slice ad' ((keepL a b L).length+1) cap')) C Y aw cap zs (linkX V a b false) (m+1)):=by
     intro ad' cap' w' ho hg
     have hbb:Below w.heap.size w w':=Below.grown HBw.out hg HBw.out.size (fun j hj=>(HO.out.lt j hj).1)
     refine ⟨cell_later hbb c2,frozen_of_row _ Y.xb 2 _ _ ((H.out.later hbb).row),HFin.out _ w' ?_ hbb⟩
     rw [HLk.out,List.length_append,twoCells_append,show twoCells [(a,b)]=twoL (a,b) by unfold twoCells; simp]
     exact ho
    obtain ⟨kl,HK⟩:∃ kl,Hid ((keepL a b L).length=kl):=⟨_,rfl⟩
    rw [HK.out] at HX HO hkl
    rw [HK.out]
    have hbw:=HBw.out.size
    clear HR HFin hab
    go_wp2_with (at_builtin; refine wpList_append_two rfl _ _ rfl w.heap.size kl (.slice av kl cv) ⟨wr.heap.size,0,none⟩ 1 _ (a,b) rfl rfl HO.out HLc.out hkl hbw ?_; intro ad' cap' w' hown hg; obtain ⟨y2,z2,ho2⟩:=HX.out ad' cap' w' hown hg; have HN:=hid ho2; clear hown hg ho2)
    go_ret
    exact ⟨rfl,HN.out⟩
   ·have HLk:=hid (show linkL a b whole L=keepL a b L by unfold linkL; rw [if_neg hcase,List.append_nil])
    rw [HLk.out] at HFin
    have HZ:=hid (HFin.out _ _ HR.out.1 HR.out.2)
    clear HFin
    cases whole with
    | true =>
     go_wp2_with fail
     go_ret
     exact ⟨rfl,HZ.out⟩
    | false =>
     have hab:(a:Int)=(b:Int):=by
      have:a=b:=Classical.byContradiction (fun e=>hcase ⟨rfl,e⟩)
      omega
     go_wp2_with fail
     go_ret
     exact ⟨rfl,HZ.out⟩
end
end Go.Proofs.YtaehdgemkafinaaGreatDoor
