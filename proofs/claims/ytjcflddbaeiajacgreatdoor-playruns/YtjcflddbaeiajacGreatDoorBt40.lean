/-
  On the way to PRunsProof: XT.
-/
import Derived.Test.YtjcflddbaeiajacGreatDoorBt35
set_option maxHeartbeats 8000000
set_option maxRecDepth 100000
namespace Go.Proofs.YtjcflddbaeiajacGreatDoor
open Go.RowKit
section
variable {w0 w w1 w':World} {C C':Nat→Nat} {K:RB} {Y:YB} {aw:Option Addr} {i n cap m m':Nat} {zs:List Int} {N:PN} {V V':PX}
theorem hearX_0 {V:PX} {i d:Nat} {F:F9} (hd:F.d.toNat=d):hearX V i F={ setNd V i (hearN (V.nd i) F) with evs:=noteE V.evs i d (stN (V.nd i) d).ph (stN (hearN (V.nd i) F) d).ph }:=by unfold hearX; rw [hd]
theorem noteE_same (E:List E3) (i d a:Nat):noteE E i d a a=E:=by unfold noteE; rw [if_neg (fun h=>h.1 rfl)]
theorem XI.noteE {V:PX} {d a b:Nat} (h:XI zs V m):XI zs { V with evs:=noteE V.evs i d a b } m :=
 ⟨h.he,h.nd,h.fr,h.fl,by
  show (Go.Proofs.YtjcflddbaeiajacGreatDoor.noteE V.evs i d a b).length≤500
  have:=h.ev
  unfold Go.Proofs.YtjcflddbaeiajacGreatDoor.noteE
  split
  ·rename_i q; rw [List.length_append]; simp only [List.length_cons,List.length_nil]; omega
  ·exact this⟩
theorem rwhear_any (f d k a ph pr pa:Nat) (y:Bool) (F:F9) (hF:F=frN f i d k a y ph pr pa) (h:RW w0 w C Y aw cap zs V m) (hi:i<zs.length) (hu:upN (V.nd i)=true) (hf:FI zs.length F) (hm:m<100000000) :
  Calls Tryz.prog 121 #[.pointer (some ⟨Y.xb,0,none⟩),.int .i64 (i:Int),frV (f:Int) (i:Int) (d:Int) (k:Int) (a:Int) y (ph:Int) (pr:Int) (pa:Int)] w fun e w'=>∃ v,e=.returned (.tuple #[v,.bool (upN (hearN (V.nd i) F))])∧ROutF w0 w w' C Y aw cap zs (hearX V i F) (m+1) v (ansN i (V.nd i) F):=by
 have hd:d<6:=by have:=hf.ok.2.2.1; rw [hF] at this; have:(0:Int)≤d∧(d:Int)≤5:=this; omega
 have hl2:(V.nd i).l≠-2:=by unfold upN at hu; simpa using hu
 obtain ⟨W,HW⟩:∃ W,Hid (w.alloc (.cells #[.int .i64 (f:Int),.int .i64 (i:Int),.int .i64 (d:Int),.int .i64 (k:Int),.int .i64 (a:Int),.bool y,.int .i64 (ph:Int),.int .i64 (pr:Int),.int .i64 (pa:Int)] 144)=W):=⟨_,rfl⟩
 have HB:Hid (Below w.heap.size w W):=by rw [← HW.out]; exact (Below.refl _ _).alloc (Nat.le_refl _) _
 have HR:Hid (W.heap[w.heap.size]? = some (.cells #[.int .i64 (f:Int),.int .i64 (i:Int),.int .i64 (d:Int),.int .i64 (k:Int),.int .i64 (a:Int),.bool y,.int .i64 (ph:Int),.int .i64 (pr:Int),.int .i64 (pa:Int)] 144 (0,0))):=by rw [← HW.out]; exact heap_alloc_new w _
 obtain ⟨b0,b1,b2,b3,b4,b5,b6,b7,b8⟩:=nine HR.out
 have H0:=hid h
 have H1:=hid (h.later HB.out)
 have HI:=hid hi
 have HU:=hid hu
 have HFI:=hid hf
 have HF:=hid hF
 obtain ⟨-,c1,-,-,-⟩:=H1.out.cells
 have c2:=H1.out.ns i hi
 have hN:=H1.out.nds i hi
 obtain ⟨d0,-,-,-⟩:=hN.cells
 unfold rsV at d0
 rw [hu,if_pos rfl] at d0
 have n7:=h.n7
 have HH:=hid (hearN_hf (h.inv.nd i hi) hl2 hf (by omega))
 have HL6:=hid (oHN_off (h.inv.nd i hi) hl2 hf (by omega))
 obtain ⟨n,hn7⟩:∃ n,Hid (zs.length=n):=⟨_,rfl⟩
 rw [hn7.out] at c1 hi n7
 have hFd:F.d.toNat=d:=by rw [hF]; exact Int.toNat_natCast d
 obtain ⟨g,HG⟩:∃ g,Hid (gHN (V.nd i) F=g):=⟨_,rfl⟩
 obtain ⟨o,HO⟩:∃ o,Hid (oHN (V.nd i) F=o):=⟨_,rfl⟩
 have HG2:Hid (hearL (dlN (V.nd i) d).2 ((V.nd i).R d) k a ph=g):=by rw [← HG.out,hF]; rfl
 have HO2:Hid (pOut (dlN (V.nd i)) (V.nd i).over (V.nd i).B (V.nd i).l d g.st.ph g.st.pr g.st.at_=o):=by rw [← HO.out,← HG.out,hF]; rfl
 have HFO:Hid (frOk f i d k a ph pr pa):=by have:=hf.ok; rw [hF] at this; exact this
 have HNM:Hid (∀ e,e<6→((dlN (V.nd i)) e).1<4294967296):=fun e he=>by have:=(h.inv.nd i HI.out).nm e he; omega
 have HNS:Hid (∀ x,w.heap.size≤x→¬ In4 (Y.K i).m (Y.K i).gn (Y.K i).gs (Y.K i).r x):=fun x hx e=>by
  obtain ⟨e1,e2,e3,e4⟩:=((h.nds i HI.out).up hu).1.lts
  unfold In4 at e; omega
 have HNC:Hid (C (Y.K i).nd=100 * i+1∧C (Y.K i).t=100 * i+2∧∀ x,In4 (Y.K i).m (Y.K i).gn (Y.K i).gs (Y.K i).r x→C x=100 * i+3 ∨ C x=100 * i+4 ∨ C x=100 * i+5 ∨ C x=100 * i+7):=by
  obtain ⟨c1,c2,c3,c4,c5⟩:=(h.nds i HI.out).cu hu
  have e2:=(h.nds i HI.out).cr
  refine ⟨(h.nds i HI.out).cn,c1,fun x hx=>?_⟩
  rcases hx with rfl|rfl|rfl|rfl <;> omega
 have HND:Hid (¬ In4 (Y.K i).m (Y.K i).gn (Y.K i).gs (Y.K i).r (Y.K i).nd):=fun e=>by have:=HNC.out.2.2 _ e; have:=HNC.out.1; omega
 have HNT:Hid (¬ In4 (Y.K i).m (Y.K i).gn (Y.K i).gs (Y.K i).r (Y.K i).t):=fun e=>by have:=HNC.out.2.2 _ e; have:=HNC.out.2.1; omega
 have hW:=HW.out
 clear h hu hf hF hN hl2
 go_enter Tryz.func121,Tryz.ntmps121
 go_wp2_with fail
 go_region_held3 (fun V=>V.cell? ⟨(Y.K i).nd,0,none⟩=some (.pointer (some ⟨(Y.K i).t,0,none⟩))∧V.cell? ⟨w.heap.size,0,none⟩=some (.int .i64 (f:Int))∧V.cell? ⟨w.heap.size,1,none⟩=some (.int .i64 (i:Int))∧V.cell? ⟨w.heap.size,2,none⟩=some (.int .i64 (d:Int))∧V.cell? ⟨w.heap.size,3,none⟩=some (.int .i64 (k:Int))∧V.cell? ⟨w.heap.size,4,none⟩=some (.int .i64 (a:Int))∧V.cell? ⟨w.heap.size,5,none⟩=some (.bool y)∧V.cell? ⟨w.heap.size,6,none⟩=some (.int .i64 (ph:Int))∧V.cell? ⟨w.heap.size,7,none⟩=some (.int .i64 (pr:Int))∧V.cell? ⟨w.heap.size,8,none⟩=some (.int .i64 (pa:Int))) (go_keep) (first|(go_at_call 203; (with_reducible refine (rhear_fr (Y.K i).t (Y.K i).m (Y.K i).gb (Y.K i).gn (Y.K i).gs (Y.K i).r i f d k a ph pr pa y (V.nd i).R (dlN (V.nd i)) (V.nd i).over (V.nd i).B (V.nd i).l _ g o ((H1.out.drew.nds i HI.out).up HU.out).2 ((H1.out.drew.nds i HI.out).up HU.out).1 HNM.out HFO.out HG2.out HO2.out HNT.out).mono ?_); rintro e w4 ⟨v,rfl,ha4,hj4,hk4,hf4⟩; have q0:=keptCell hk4 d0 HND.out; have q1:=keptCell hk4 b0 (HNS.out _ (Nat.le_refl _)); have q2:=keptCell hk4 b1 (HNS.out _ (Nat.le_refl _)); have q3:=keptCell hk4 b2 (HNS.out _ (Nat.le_refl _)); have q4:=keptCell hk4 b3 (HNS.out _ (Nat.le_refl _)); have q5:=keptCell hk4 b4 (HNS.out _ (Nat.le_refl _)); have q6:=keptCell hk4 b5 (HNS.out _ (Nat.le_refl _)); have q7:=keptCell hk4 b6 (HNS.out _ (Nat.le_refl _)); have q8:=keptCell hk4 b7 (HNS.out _ (Nat.le_refl _)); have q9:=keptCell hk4 b8 (HNS.out _ (Nat.le_refl _)); have HA4:=hid (And.intro ha4 (And.intro hj4 (And.intro hk4 hf4))); clear ha4 hj4 hk4 hf4))
 clear q0 q1 q2 q3 q4 q5 q6 q7 q8 q9 b0 b1 b2 b3 b4 b5 b6 b7 b8 c1 c2 d0
 have HOE:Hid (o.e=dealL o.b.data.toList):=by have:=HH.out.e; rw [HO.out] at this; rw [this]; unfold dlN; rw [hearN_B,HO.out]; exact rfl
 have HJ4:Hid (RK w4 (Y.K i).m (Y.K i).gn (Y.K i).gs (Y.K i).r (dealL o.b.data.toList) o.over o.b o.l):=by have:=HA4.out.2.1; rw [HOE.out] at this; exact this
 have HK4:Hid (Kept (In4 (Y.K i).m (Y.K i).gn (Y.K i).gs (Y.K i).r) w w4):=(Kept.of_below HB.out).trans ((Kept.refl _ W).drew.trans HA4.out.2.2.1)
 have HFr4:Hid (FrF w4 C w.heap.size v (ansN i (V.nd i) F)):=by
  have:=AnsV.frf (w:=w4) (C:=C) (id:=i) (f:=F) (g:=g) (c:=o.c) (base:=w.heap.size) (v:=v) (by rw [HF.out]; exact HA4.out.1) (fun a cp e=>Nat.le_trans HB.out.size (HA4.out.2.2.2 a cp e)) (fun x hx=>by rcases Nat.lt_or_ge (C x) 2000 with q|q; (have:=H0.out.lt x q; omega); exact q)
  unfold ansN
  rw [HG.out,HO.out]
  exact this
 have HBD:Hid (∀ e,stN (hearN (V.nd i) F) e=(dealL o.b.data.toList e).2):=fun e=>by unfold stN dlN; rw [hearN_B,HO.out]
 have hupc:=HH.out.up
 rw [HO.out] at hupc
 rcases HH.out.c with hc|hc
 ·have hN0:=hearN_0 hc
  rw [HO.out] at hc hN0
  have hci:(o.c:Int)=0:=by omega
  have hut:upN (hearN (V.nd i) F)=true:=by rw [hupc,hc]; rfl
  rw [hci]
  have HUT:=hid hut
  have hlo:o.l≠-2:=by rw [hN0] at hut; unfold upN at hut; simpa using hut
  have HLO:=hid hlo
  have HN0:=hid hN0
  have HYS:=hid (HH.out.yes (by rw [HO.out]; exact hc))
  clear hupc hut hlo hN0 HA4
  go_wp2_with fail
  refine (rnote_any (H0.out.nt HI.out HU.out HK4.out HJ4.out) (by rw [hn7.out]; exact hi) (Nat.le_trans H0.out.bel.size HK4.out.size)).mono ?_
  rintro e w5 ⟨rfl,hn5⟩
  have HN5:=hid hn5
  clear hn5
  go_wp2_with fail
  go_ret2
  refine ⟨v,by rw [HUT.out]; rfl,?_⟩
  have hgg:∀ e,e<6→(finB (stN (V.nd i) e).ph=true→finB (dealL o.b.data.toList e).2.ph=true):=fun e he hfe=>by
   rw [← HBD.out e]
   by_cases g:e=d
   ·have q1:=HH.out.may
    have q2:=HYS.out
    rw [hFd] at q1 q2
    rw [g] at hfe ⊢
    rw [q2,fin_stays q1 hfe]
    exact hfe
   ·have:=HH.out.other e (by rw [hFd]; exact g)
    unfold stN
    rw [this]
    exact hfe
  have hev:noteL V.evs i (fun d=>finB (stN (V.nd i) d).ph) (fun d=>(dealL o.b.data.toList d).2.ph) 6=noteE V.evs i d (stN (V.nd i) d).ph (stN (hearN (V.nd i) F) d).ph:=by
   rw [HBD.out d]
   refine noteL_one hd (fun e he hne=>?_) rfl (fun hfe=>?_)
   ·show finB (stN (V.nd i) e).ph=finB (dealL o.b.data.toList e).2.ph
    rw [← HBD.out e]
    have:=HH.out.other e (by rw [hFd]; exact hne)
    unfold stN
    rw [this]
   ·show (dealL o.b.data.toList d).2.ph=_
    rw [← HBD.out d]
    have q1:=HH.out.may
    have q2:=HYS.out
    rw [hFd] at q1 q2
    rw [q2]
    exact fin_stays q1 hfe
  have hn6:=HN5.out
  rw [hev] at hn6
  have hX:XI zs { setNd V i (hearN (V.nd i) F) with evs:=noteE V.evs i d (stN (V.nd i) d).ph (stN (hearN (V.nd i) F) d).ph } (m+1):=(H0.out.inv.node HH.out.ni (Nat.le_succ _)).noteE
  have hout:=H0.out.heardOut (m':=m+1) HI.out HU.out HLO.out HK4.out HJ4.out hn6 (fun e he=>noteG_six he (hgg e he)) (Nat.le_succ _) (by rw [← HN0.out]; exact hX)
  rw [← HN0.out,← hearX_0 hFd] at hout
  obtain ⟨C',Y',x1,x2,x3,x4,x5⟩:=hout
  exact ⟨C',Y',x1,x2,x3,fun x hx=>x4 x (Nat.lt_of_lt_of_le hx HK4.out.size),HFr4.out.kept x5 x4⟩
 ·have hN6:=hearN_6 hc
  have hl6:=HL6.out hc
  rw [HO.out] at hc hN6 hl6
  have hci:(o.c:Int)=6:=by omega
  have huf:upN (hearN (V.nd i) F)=false:=by rw [hupc,hc]; rfl
  rw [hci]
  have HUF:=hid huf
  have HSame:Hid (∀ e,e<6→finB (dealL o.b.data.toList e).2.ph=finB (stN (V.nd i) e).ph):=fun e he=>by
   rw [← HBD.out e]
   by_cases g:e=d
   ·have:=HH.out.no (by rw [HO.out]; exact hc)
    rw [hFd] at this
    rw [g]
    unfold stN
    rw [this]
   ·have:=HH.out.other e (by rw [hFd]; exact g)
    unfold stN
    rw [this]
  have HS6:Hid (stN (hearN (V.nd i) F) d=stN (V.nd i) d):=by
   have:=HH.out.no (by rw [HO.out]; exact hc)
   rw [hFd] at this
   show stN _ _=_
   unfold stN
   rw [this]
  have HRow:=hid (HK4.out.row (H0.out.nds i HI.out).row HND.out)
  have HN6:=hid hN6
  have HL:=hid hl6
  have HC6:=hid hc
  clear hupc huf hN6 HA4 hl6
  go_wp2_with fail
  refine (rfall_any HRow.out).mono ?_
  rintro e w5 ⟨rfl,rfl⟩
  go_wp2_with fail
  go_ret2
  refine ⟨.slice none 0 0,by rw [HUF.out]; rfl,?_⟩
  have hRP:=HJ4.out.rp
  rw [HL.out] at hRP
  have hni:=HH.out.ni
  have e6:hearN (V.nd i) F=fallN { V.nd i with B:=o.b,over:=o.over }:=HN6.out
  have hout:=H0.out.fell (m':=m+1) (ov:=o.over) HI.out HK4.out (fun x hx=>by have:=HNC.out.2.2 x hx; omega) hRP HSame.out (Nat.le_succ _) (by rw [← e6]; exact hni)
  rw [← e6] at hout
  have hx:hearX V i F=setNd V i (hearN (V.nd i) F):=by rw [hearX_0 hFd,HS6.out,noteE_same]; rfl
  rw [hx]
  obtain ⟨C',Y',x1,x2,x3,x4⟩:=hout
  refine ⟨C',Y',x1,x2,x3,x4,?_⟩
  have:ansN i (V.nd i) F=[]:=by unfold ansN; rw [HO.out,if_neg (fun q=>by have:=HC6.out; omega)]
  rw [this]
  exact FrF.nil _ _ _
end
end Go.Proofs.YtjcflddbaeiajacGreatDoor
