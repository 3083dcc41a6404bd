/-
  On the way to SActsProof: SK.
-/
import Derived.Test.YtkopfpaldmapdaaDoorBs31
set_option maxHeartbeats 8000000
set_option maxRecDepth 100000
namespace Go.Proofs.YtkopfpaldmapdaaDoor
open Go.RowKit
theorem sacts_main (A:Nat→Addr) (id:Nat) (s:ByteArray) (ad:Option Addr) (cap:Nat) (xs:List Act12) (w:World) (hE:Held9 w A) (hs:s.size≤512) (h6:216≤s.size) (hx:SActsIn w ad xs) (hn:xs.length≤60) (i7:id<7) :
  Calls Tryd.prog 5 #[.int .i64 (id:Int),.string s,.slice ad xs.length cap] w fun e w'=>e=.returned (.bool true)∧Below w.heap.size w w':=by
 have HX:=hid hx
 clear hx
 have i0i:¬ (id:Int)<0:=by omega
 have i7i:(id:Int)<7:=by omega
 have HE:=hid hE
 clear hE
 have hg:decide ((512:Int)<(s.size:Int))=false:=decide_eq_false (by omega)
 have hg2:decide ((60:Int)<(xs.length:Int))=false:=decide_eq_false (by omega)
 go_enter Tryd.func5,Tryd.ntmps5
 go_wp2_with fail
 refine (votes_any A w HE.out.toE).mono ?_
 rintro e w1 ⟨rfl,hb1⟩
 have HB1:=hid hb1
 clear hb1
 go_wp2_with fail
 refine (pfrom_ok s w1 (by omega)).mono ?_
 rintro e w2 ⟨rfl,hP,hb2,-⟩
 have HB2:=hid (HB1.out.trans (hb2.mono HB1.out.size))
 have hpq:=HB1.out.size
 obtain ⟨p,Hp⟩:∃ p,Hid (w1.heap.size+1=p):=⟨_,rfl⟩
 obtain ⟨q,Hq⟩:∃ q,Hid (w1.heap.size=q):=⟨_,rfl⟩
 have p0:w.heap.size≤p:=by rw [← Hp.out]; omega
 have q0:w.heap.size≤q:=by rw [← Hq.out]; omega
 rw [Hp.out,Hq.out] at hP
 have HP:=hid hP
 have hpp:=Hp.out
 clear hP hb2
 go_wp2_with fail
 refine (snew_ok A id p q s (-1) w2 HP.out (HE.out.later HB2.out).toE (by omega) h6 (by decide) (by omega) i7i).mono ?_
 rintro e w3 ⟨st,j,mb,rfl,hJ,hS,hb3,hj0,hjm,hms⟩
 have HS:=hid (sp_new HB2.out HP.out p0 q0 hJ hS hb3 hj0 hjm hms (by omega) (by omega) (by omega) h6)
 clear hJ hS hb3 hj0 hjm hms hpp
 obtain ⟨r,Hr⟩:∃ n,Hid (w3.heap.size=n):=⟨_,rfl⟩
 have hr:=Hr.out
 obtain ⟨X,HXw⟩:∃ X,Hid (w3.alloc (.cells #[.string s,.bool false,.int .i64 0,.bool false] 52)=X):=⟨_,rfl⟩
 have HRX:Hid (RP X r s false 0 false):=by rw [← HXw.out,← Hr.out]; exact heap_alloc_new w3 _
 have HSX:=hid (HS.out.later (w':=X) (by rw [← HXw.out]; exact (Below.refl _ _).alloc (Nat.le_refl _) _))
 have HRl:Hid (r<X.heap.size):=row_ltJ HRX.out
 have HRN:Hid (r≠j∧r≠p∧r≠q∧r≠st∧r≠mb∧w.heap.size≤r):=by
  obtain ⟨e1,e2,e3,e4,e5⟩:=HS.out.lts
  have e6:=HS.out.jp.bel.size
  rw [← Hr.out]
  exact ⟨by omega,by omega,by omega,by omega,by omega,e6⟩
 go_wp2_with fail
 rw [HXw.out]
 refine (ropenerr_any r s false false 0 X HRX.out (by omega)).mono ?_
 rw [if_neg (by omega)]
 rintro e wx ⟨rfl,hx⟩
 subst wx
 go_wp2_with fail
 refine (rsnew_rp r s false false 0 (id:Int) X HRX.out (by omega) h6).mono ?_
 rintro e w4 ⟨t,m,gn,gs,gb,rfl,hrj,hrs,hb4,b1,b2,b3,b4,t1,t2,t3,t4,b5,g1,g2,g3⟩
 have HI0:Hid (BI w w4 st j mb p q 0 t m gn gs r gb id (fun _=>false) (dealL s.data.toList) false s (-1)):=by
  obtain ⟨n1,n2,n3,n4,n5,n6⟩:=HRN.out
  have hrl:=HRl.out
  exact bi_new HSX.out hb4 ⟨hrj,⟨false,0,false,HRX.out.kept (S:=fun _=>False) (Kept.of_below hb4) (fun x=>x),.inr (.inl ⟨rfl,rfl,rfl⟩)⟩,by omega,by omega,by omega,by omega,h6⟩ hrs n6 hrl n1 n2 n3 n4 n5 b1 b2 b3 b4 b5 t1 t2 t3 t4 g1 g2 g3
 clear hrj hrs hb4 b1 b2 b3 b4 t1 t2 t3 t4 b5 g1 g2 g3 hr hg hg2 hpq
 have HRP:Hid (r≠p∧r≠q):=⟨HRN.out.2.1,HRN.out.2.2.1⟩
 go_wp2_with fail
 go_loopw [10,13,14] (fun vs vt i wr=>∃ (k s j mb n t m gn gs gb:Nat) (R:Nat→Bool) (E:Nat→Nat×St) (over:Bool) (B:ByteArray) (l:Int),k≤xs.length∧n≤k∧vs=.pointer (some ⟨s,0,none⟩)∧vt=.pointer (some ⟨t,0,none⟩)∧i=.int .i64 (k:Int)∧BI w wr s j mb p q n t m gn gs r gb id R E over B l) (fun _ _ i _=>xs.length - (intOf i).toNat)
 case atStart=>exact ⟨0,st,j,mb,0,t,m,gn,gs,gb,_,_,_,_,_,Nat.zero_le _,Nat.le_refl _,rfl,rfl,rfl,HI0.out⟩
 case round =>
  clear HI0 HSX HS HRX HRN HRl
  obtain ⟨k,s,j,mb,n,t,m,gn,gs,gb,R,E,over,B,l,hk,hnk,rfl,rfl,rfl,hI⟩:=hrel
  have HI:=hid hI
  clear hI
  by_cases hlt:k<xs.length
  ·obtain ⟨b,o,rfl,hy,hc9⟩:=HX.out k hlt
   obtain ⟨y0,y1,y2,y3,y4,y5,y6,y7,y8,y9,y10,y11⟩:=twelve (w:=wr) (fun j hj=>(HI.out.bel.cell (cell_lt (hy j hj |>.trans (List.getElem?_eq_getElem (by simpa [act12L] using hj))))).trans (hy j hj))
   generalize xs[k]'hlt=x at *
   obtain ⟨xk,xf,xt,xd,xkk,xa,xy,xph,xpr,xpa,xdl,xn⟩:=x
   simp only at y0 y1 y2 y3 y4 y5 y6 y7 y8 y9 y10 y11 hc9
   clear hy
   obtain ⟨ab,Hab⟩:∃ n,Hid (wr.heap.size=n):=⟨_,rfl⟩
   obtain ⟨W,HW⟩:∃ W,Hid (wr.alloc (.cells #[.string xk,.int .i64 xf,.int .i64 xt,.int .i64 xd,.int .i64 xkk,.int .i64 xa,.bool xy,.int .i64 xph,.int .i64 xpr,.int .i64 xpa,.int .i64 xdl,.int .i64 xn] 38)=W):=⟨_,rfl⟩
   have hW:=HW.out
   have hab:=Hab.out
   have HIW:=hid (HI.out.later (w':=W) (by rw [← HW.out]; exact (Below.refl _ _).alloc (Nat.le_refl _) _))
   have RW:Hid (W.heap[ab]? = some (.cells #[.string xk,.int .i64 xf,.int .i64 xt,.int .i64 xd,.int .i64 xkk,.int .i64 xa,.bool xy,.int .i64 xph,.int .i64 xpr,.int .i64 xpa,.int .i64 xdl,.int .i64 xn] 38 (0,0))):=by rw [← HW.out,← Hab.out]; exact heap_alloc_new wr _
   have HNA:Hid (¬ In3 j p q ab∧¬ In4 m gn gs r ab∧ab≠mb):=by
    obtain ⟨e1,e2,e3,e4,e5⟩:=HI.out.sp.lts
    obtain ⟨e6,e7,e8,e9⟩:=HI.out.rk.lts
    rw [← Hab.out]
    exact ⟨fun e=>by unfold In3 at e; omega,fun e=>by unfold In4 at e; omega,by omega⟩
   obtain ⟨a0,a1,a2,a3,a4,a5,a6,a7,a8,a9,a10,a11⟩:=twelveR RW.out
   go_upto_block 2 with fail
   clear y0 y1 y2 y3 y4 y5 y6 y7 y8 y9 y10 y11 hab hW HW HI
   go_cut [10,13] from 87 to 215 (fun s10 s13 wx=>∃ (s' j' mb' n' t' m' gn' gs' gb':Nat) (R':Nat→Bool) (E':Nat→Nat×St) (over':Bool) (B':ByteArray) (l':Int),n'≤k+1∧s10=.pointer (some ⟨s',0,none⟩)∧s13=.pointer (some ⟨t',0,none⟩)∧BI w wx s' j' mb' p q n' t' m' gn' gs' r gb' id R' E' over' B' l')
   case first =>
    rcases k1:(xk.toList == [114,101,102,117,115,101]) with _|_
    rotate_left
    · -- refuse
     by_cases hdl:0≤xdl∧xdl<6
     ·obtain ⟨d,rfl⟩:∃ d:Nat,xdl=d:=⟨xdl.toNat,by omega⟩
      have hd:d<6:=by omega
      have hdi:(d:Int)<6:=by omega
      have hn6:n≤1000000:=by omega
      clear hdl
      go_wp2_with (go_at_call 11; (with_reducible refine (srefuse_ok d HIW.out.sp.jp.jr HIW.out.sp.sr hd hn6).mono ?_); rintro e v1 ⟨rfl,hr1,hk1,-⟩; have HRF:=hid (HIW.out.refuse hd hr1 hk1); have RA1:=hid (hk1.row RW.out HNA.out.2.2); clear hr1 hk1; obtain ⟨b0,b1,b2,b3,b4,b5,b6,b7,b8,b9,b10,b11⟩:=twelveR RA1.out; obtain ⟨x0,x1,x2⟩:=HRF.out.1.cells; have xr:=HRF.out.1.ref hd; have xf:=frozen_of_row _ _ d _ _ HRF.out.1.refs)
      go_region
      all_goals go_wp2_with fail
      all_goals go_meet
      all_goals exact ⟨s,j,mb,n+1,t,m,gn,gs,gb,_,E,over,B,l,by omega,rfl,rfl,HRF.out.2.drew⟩
     ·have HEW:=hid (HE.out.later HIW.out.bel)
      by_cases hd0:xdl<0
      ·go_wp2_with (go_at_call 11; (with_reducible refine (srefuse_bad (A:=A) xdl HIW.out.sp.sr HEW.out.toE hdl).mono ?_); rintro e v1 ⟨rfl,hb1⟩; have HI1:=hid (HIW.out.later hb1); have RA1:=hid ((hb1.block _ (row_ltJ RW.out)).trans RW.out); clear hb1; obtain ⟨b0,b1,b2,b3,b4,b5,b6,b7,b8,b9,b10,b11⟩:=twelveR RA1.out)
       refine (coded_ev A 2 _ (HE.out.later HI1.out.bel) (by omega)).mono ?_
       rintro e v2 ⟨rfl,hb2⟩
       have HI2:=hid (HI1.out.later hb2)
       clear hb2
       go_wp2_with fail
       go_roundw
       case rel=>exact ⟨k+1,s,j,mb,n,t,m,gn,gs,gb,R,E,over,B,l,by omega,by omega,rfl,rfl,by go_num,HI2.out⟩
       case measure=>simp [intOf]; omega
      ·have hd6:6≤xdl:=by omega
       go_wp2_with (go_at_call 11; (with_reducible refine (srefuse_bad (A:=A) xdl HIW.out.sp.sr HEW.out.toE hdl).mono ?_); rintro e v1 ⟨rfl,hb1⟩; have HI1:=hid (HIW.out.later hb1); have RA1:=hid ((hb1.block _ (row_ltJ RW.out)).trans RW.out); clear hb1; obtain ⟨b0,b1,b2,b3,b4,b5,b6,b7,b8,b9,b10,b11⟩:=twelveR RA1.out)
       refine (coded_ev A 2 _ (HE.out.later HI1.out.bel) (by omega)).mono ?_
       rintro e v2 ⟨rfl,hb2⟩
       have HI2:=hid (HI1.out.later hb2)
       clear hb2
       go_wp2_with fail
       go_roundw
       case rel=>exact ⟨k+1,s,j,mb,n,t,m,gn,gs,gb,R,E,over,B,l,by omega,by omega,rfl,rfl,by go_num,HI2.out⟩
       case measure=>simp [intOf]; omega
    rcases k2:(xk.toList == [99,117,116]) with _|_
    rotate_left
    · -- cut
     obtain ⟨c,HCc⟩:∃ c,Hid (cC l xn=c):=⟨_,rfl⟩
     obtain ⟨l2,HCl⟩:∃ c,Hid (cL l xn=c):=⟨_,rfl⟩
     have HC9:Hid (c≤9):=by rw [← HCc.out]; exact cC_le _ _
     have HIWd:=hid HIW.out.drew
     have RWd:Hid (W.drew.heap[ab]? = some (.cells #[.string xk,.int .i64 xf,.int .i64 xt,.int .i64 xd,.int .i64 xkk,.int .i64 xa,.bool xy,.int .i64 xph,.int .i64 xpr,.int .i64 xpa,.int .i64 xdl,.int .i64 xn] 38 (0,0))):=RW.out
     go_wp2_with fail
     go_region_held3 (fun w'=>w'.cell? ⟨ab,11,none⟩=some (.int .i64 xn)) (go_keep) (first|(go_at_call 12; (with_reducible refine (scut_is xn c l2 HIWd.out.sp.jp HE.out.toE hc9 HCc.out HCl.out).mono ?_); rintro e v1 ⟨rfl,hj1,hk1⟩; have HS1:=hid (HIWd.out.sp.turn hj1 hk1); have HD1:=hid (HIWd.out.docKept hk1); have HK1:=hid hk1; have RA1:=hid (hk1.row RWd.out HNA.out.1); have z1:=(twelveR RA1.out).2.2.2.2.2.2.2.2.2.2.2; clear hj1 hk1)|(go_at_call 21; (with_reducible refine (rcut_rk xn c l2 HD1.out.1 hc9 HCc.out HCl.out).mono ?_); rintro e v2 ⟨rfl,hm2,hk2⟩; have HI2:=hid (HIWd.out.both HS1.out HK1.out hm2 hk2 HIWd.out.en); have RA2:=hid (hk2.row RA1.out HNA.out.2.1); have z2:=(twelveR RA2.out).2.2.2.2.2.2.2.2.2.2.2; clear hm2 hk2)|(go_at_call 19; (with_reducible refine (coded_ev A c _ (HE.out.later HI2.out.bel) HC9.out).mono ?_); rintro e v3 ⟨rfl,hb3⟩; have HI3:=hid (HI2.out.later hb3); have RA3:=hid ((hb3.block _ (row_ltJ RA2.out)).trans RA2.out); have z3:=(twelveR RA3.out).2.2.2.2.2.2.2.2.2.2.2; clear hb3))
     all_goals go_wp2_with fail
     all_goals go_meet
     all_goals exact ⟨s,j,mb,n,t,m,gn,gs,gb,R,E,over,B,l2,by omega,rfl,rfl,HI3.out⟩
    rcases k3:(xk.toList == [98,111,111,116]) with _|_
    rotate_left
    · -- boot
     go_wp2_with (go_at_call 13; (with_reducible refine (jon_jp HIW.out.sp.jp).mono ?_); rintro e v1 ⟨rfl,hj1,hk1⟩; have HS1:=hid (HIW.out.sp.turn hj1 hk1); have HD1:=hid (HIW.out.docKept hk1); have HK1:=hid hk1; clear hj1 hk1)
     refine (ron_rk HD1.out.1).mono ?_
     rintro e v2 ⟨rfl,hm2,hk2⟩
     have HI2:=hid (HIW.out.both HS1.out HK1.out hm2 hk2 HIW.out.en)
     clear hm2 hk2
     go_wp2_with fail
     refine (sboot_sp (id:=(id:Int)) HI2.out.sp.jp HE.out.toE (by omega) i7i).mono ?_
     rintro e v3 ⟨s',j',mb',rfl,hs3,hb3,q1,q2,q3⟩
     have HS3:=hid hs3
     have HB3:=hid hb3
     have HQ3:=hid (And.intro q1 (And.intro q2 q3))
     clear hs3 hb3 q1 q2 q3
     obtain ⟨off,lx,cuts,p1,p2⟩:=HI2.out.rk.rp
     have HP3:=hid (p1.kept (S:=fun _=>False) (Kept.of_below HB3.out) (fun x=>x))
     have HLk:=hid p2
     have HRl:=hid (row_ltJ p1)
     clear p1 p2
     go_wp2_with fail
     refine (rsnew_rp r B off cuts lx (id:Int) v3 HP3.out HI2.out.sp.jp.sz HI2.out.sp.jp.s6).mono ?_
     rintro e v4 ⟨t',m',gn',gs',gb',rfl,hrj,hrs,hb4,b1,b2,b3,b4,t1,t2,t3,t4,b5,g1,g2,g3⟩
     have HI4:Hid (BI w v4 s' j' mb' p q 0 t' m' gn' gs' r gb' id (fun _=>false) (dealL B.data.toList) false B (-1)):=by
      obtain ⟨q1,q2,q3⟩:=HQ3.out
      have e1:=HRl.out
      have e2:=HB3.out.size
      obtain ⟨n1,n2⟩:=HRP.out
      exact bi_new HS3.out hb4 ⟨hrj,⟨off,lx,cuts,HP3.out.kept (S:=fun _=>False) (Kept.of_below hb4) (fun x=>x),HLk.out⟩,by omega,by omega,by omega,HI2.out.sp.jp.sz,HI2.out.sp.jp.s6⟩ hrs (HI2.out.low r (.inl (.inr (.inr (.inr rfl))))) (by omega) (by omega) n1 n2 (by omega) (by omega) b1 b2 b3 b4 b5 t1 t2 t3 t4 g1 g2 g3
     clear hrj hrs hb4 b1 b2 b3 b4 t1 t2 t3 t4 b5 g1 g2 g3
     go_wp2_with fail
     go_meet
     exact ⟨s',j',mb',0,t',m',gn',gs',gb',_,_,_,B,_,by omega,rfl,rfl,HI4.out⟩
    · -- hear
     by_cases hf:frOk xf xt xd xkk xa xph xpr xpa
     ·by_cases hto:xt=(id:Int)
      ·subst hto
       obtain ⟨f,rfl⟩:∃ f:Nat,xf=f:=⟨xf.toNat,by have:=hf.1; omega⟩
       obtain ⟨d,rfl⟩:∃ f:Nat,xd=f:=⟨xd.toNat,by have:=hf.2.2.1; omega⟩
       obtain ⟨kk,rfl⟩:∃ f:Nat,xkk=f:=⟨xkk.toNat,by have:=hf.2.2.2.1; omega⟩
       obtain ⟨a,rfl⟩:∃ f:Nat,xa=f:=⟨xa.toNat,by have:=hf.2.2.2.2.1; omega⟩
       obtain ⟨ph,rfl⟩:∃ f:Nat,xph=f:=⟨xph.toNat,by have:=hf.2.2.2.2.2.1; omega⟩
       obtain ⟨pr,rfl⟩:∃ f:Nat,xpr=f:=⟨xpr.toNat,by have:=hf.2.2.2.2.2.2.1; omega⟩
       obtain ⟨pa,rfl⟩:∃ f:Nat,xpa=f:=⟨xpa.toNat,by have:=hf.2.2.2.2.2.2.2; omega⟩
       obtain ⟨g,HG⟩:∃ g,Hid (hearL (E d).2 (R d) kk a ph=g):=⟨_,rfl⟩
       obtain ⟨oo,HO⟩:∃ o,Hid (pOut E over B l d g.st.ph g.st.pr g.st.at_=o):=⟨_,rfl⟩
       have HO9:Hid (oo.c≤9):=by rw [← HO.out]; exact pOut_c _ _ _ _
       have HON:Hid (∀ d,d<6→(oo.e d).1<4294967296):=by rw [← HO.out]; exact pOut_n _ _ _ _ HIW.out.en
       have HF:=hid hf
       clear hf
       go_wp2_with (first|(go_at_call 14; (with_reducible refine (shear_in A w _ s j mb p q n id f d kk a ph pr pa xy R E over B l g oo HIW.out.sp HE.out.toE HIW.out.en HF.out HG.out HO.out).mono ?_); rintro e v1 ⟨va,rfl,hv1,hs1,hk1⟩; have HS1:=hid hs1; have HD1:=hid (HIW.out.docKept hk1); have HK1:=hid hk1; have HV1:=hid hv1; have RA1:=hid (hk1.row RW.out HNA.out.1); clear hv1 hs1 hk1; obtain ⟨b0,b1,b2,b3,b4,b5,b6,b7,b8,b9,b10,b11⟩:=twelveR RA1.out)|(go_at_call 23; (with_reducible refine (rhear_in t m gb gn gs r id f d kk a ph pr pa xy R E over B l _ g oo HD1.out.2 HD1.out.1 HIW.out.en HF.out HG.out HO.out HIW.out.nt).mono ?_); rintro e v2 ⟨vb,rfl,hv2,hr2,hk2⟩; have HV2:=hid hv2; have HVa:=hid (HV1.out.kept hk2 HD1.out.1); have HI2:=hid (HIW.out.both HS1.out HK1.out hr2 hk2 HON.out); clear hv2 hr2 hk2)|(go_at_call 19; (with_reducible refine (coded_ev A oo.c _ (HE.out.later HI2.out.bel) HO9.out).mono ?_); rintro e v3 ⟨rfl,hb3⟩; have HI3:=hid (HI2.out.later hb3); have HX1:=hid (HVa.out.later hb3); have HX2:=hid (HV2.out.later hb3); clear hb3)|(go_at_call 24; (with_reducible refine (same_ans _ va vb oo.c _ _ _ _ g HX1.out HX2.out).mono ?_); rintro e v4 ⟨rfl,hb4⟩; have HI4:=hid (HI3.out.later hb4); clear hb4))
       all_goals go_meet
       all_goals exact ⟨s,j,mb,n,t,m,gn,gs,gb,R,_,_,_,_,by omega,rfl,rfl,HI4.out⟩
      ·go_wp2_with (first|(go_at_call 14; (with_reducible refine (shear_other A s j mb n (id:Int) R xf xt xd xkk xa xy xph xpr xpa _ HIW.out.sp.sr (HE.out.later HIW.out.bel).toE hf hto).mono ?_); rintro e v1 ⟨rfl,hb1⟩; have HI1:=hid (HIW.out.later hb1); have RA1:=hid ((hb1.block _ (row_ltJ RW.out)).trans RW.out); clear hb1; obtain ⟨b0,b1,b2,b3,b4,b5,b6,b7,b8,b9,b10,b11⟩:=twelveR RA1.out)|(go_at_call 23; (with_reducible refine (rhear_other t m gb (id:Int) R xf xt xd xkk xa xy xph xpr xpa _ HI1.out.rs hf hto).mono ?_); rintro e v2 ⟨rfl,hb2⟩; have HI2:=hid (HI1.out.later hb2); clear hb2))
       refine (coded_ev A 3 _ (HE.out.later HI2.out.bel) (by omega)).mono ?_
       rintro e v3 ⟨rfl,hb3⟩
       have HI3:=hid (HI2.out.later hb3)
       clear hb3
       go_wp2_with (go_at_call 24; (with_reducible refine (same_none _).mono ?_); rintro e v4 ⟨rfl,hb4⟩; have HI4:=hid (HI3.out.later hb4); clear hb4)
       go_meet
       exact ⟨s,j,mb,n,t,m,gn,gs,gb,R,E,over,B,l,by omega,rfl,rfl,HI4.out⟩
     ·go_wp2_with (first|(go_at_call 14; (with_reducible refine (shear_bad A _ xf xt xd xkk xa xy xph xpr xpa _ (HE.out.later HIW.out.bel).toE hf).mono ?_); rintro e v1 ⟨rfl,hb1⟩; have HI1:=hid (HIW.out.later hb1); have RA1:=hid ((hb1.block _ (row_ltJ RW.out)).trans RW.out); clear hb1; obtain ⟨b0,b1,b2,b3,b4,b5,b6,b7,b8,b9,b10,b11⟩:=twelveR RA1.out)|(go_at_call 23; (with_reducible refine (rhear_bad _ xf xt xd xkk xa xy xph xpr xpa _ hf).mono ?_); rintro e v2 ⟨rfl,hb2⟩; have HI2:=hid (HI1.out.later hb2); clear hb2))
      refine (coded_ev A 2 _ (HE.out.later HI2.out.bel) (by omega)).mono ?_
      rintro e v3 ⟨rfl,hb3⟩
      have HI3:=hid (HI2.out.later hb3)
      clear hb3
      go_wp2_with (go_at_call 24; (with_reducible refine (same_none _).mono ?_); rintro e v4 ⟨rfl,hb4⟩; have HI4:=hid (HI3.out.later hb4); clear hb4)
      go_meet
      exact ⟨s,j,mb,n,t,m,gn,gs,gb,R,E,over,B,l,by omega,rfl,rfl,HI4.out⟩
   obtain ⟨s',j',mb',n',t',m',gn',gs',gb',R',E',over',B',l',hn',rfl,rfl,hI'⟩:=hcut
   have HI':=hid hI'
   clear hI' HIW RW HNA a0 a1 a2 a3 a4 a5 a6 a7 a8 a9 a10 a11
   rename_i wc
   generalize wc=v0 at *
   go_wp2_with fail
   go_loopw [23] (fun i wq=>∃ e:Nat,e≤6∧i=.int .i64 (e:Int)∧BI w wq s' j' mb' p q n' t' m' gn' gs' r gb' id R' E' over' B' l') (fun i _=>6 - (intOf i).toNat)
   case atStart=>exact ⟨0,by omega,rfl,HI'.out⟩
   case round =>
    clear HI'
    obtain ⟨e,he6,rfl,hI3⟩:=hrel
    have HI3:=hid hI3
    clear hI3
    by_cases he:e<6
    ·obtain ⟨⟨h1,h2,h3⟩,HD⟩:∃ x,Hid ((E' e).2=x):=⟨_,rfl⟩
     have hei:(e:Int)<6:=by omega
     have hne:=st_neq (h1:Int) (h2:Int) (h3:Int)
     go_wp2_with (go_at_call 15; (with_reducible refine (sstate_is e h1 h2 h3 HI3.out.sp.jp.jr HI3.out.sp.sr he HD.out).mono ?_); rintro ee v3 ⟨rfl,hb3⟩; have HI4:=hid (HI3.out.later hb3); clear hb3; obtain ⟨x0,x1,x2⟩:=HI4.out.rs.cells; obtain ⟨cn,cs,m0,m1,m2,m3,-⟩:=HI4.out.rk.cells; obtain ⟨t0,t1,t2,-⟩:=HI4.out.rk.st he; rw [HD.out] at t0 t1 t2; simp only at t0 t1 t2; have lt1:=row_ltJ HI4.out.rs.row; obtain ⟨lt2,-,lt3,-⟩:=HI4.out.rk.lts)
     go_region
     all_goals go_wp2_with fail
     all_goals go_roundw
     case rel=>exact ⟨e+1,by omega,by go_num,(HI4.out.later ((Below.refl _ _).alloc (Nat.le_refl _) _)).drew⟩
     case measure=>simp [intOf]; omega
    ·obtain rfl:e=6:=by omega
     have xb:=HI3.out.rk.bytes
     have hBB:(B'.toList == B'.toList)=true:=by simp
     go_wp2_with fail
     go_region_held3 (fun w'=>w'.cell? ⟨r,0,none⟩=some (.string B')) (go_keep) (first|(go_at_call 25; (with_reducible refine (pbytes_any p q B' l' _ HI3.out.sp.jp.pl.drew).mono ?_); rintro ee wx ⟨rfl,hx⟩; subst wx))
     all_goals go_wp2_with fail
     all_goals go_roundw
     case rel=>exact ⟨k+1,s',j',mb',n',t',m',gn',gs',gb',R',E',over',B',l',by omega,hn',rfl,rfl,by go_num,HI3.out.drew⟩
     case measure=>simp [intOf]; omega
  ·obtain rfl:k=xs.length:=by omega
   have HIe:=HI
   have hez:=st_eql 0 0 0 0 0 0 true (by decide)
   clear HI
   go_wp2_with (first|(go_at_call 15; (with_reducible refine (sstate_isnt (A:=A) 6 HIe.out.sp.sr (HE.out.later HIe.out.bel).toE (by omega)).mono ?_); rintro e v1 ⟨rfl,hb1⟩; unfold ev; have HI1:=hid (HIe.out.later hb1); clear hb1))
   refine (coded_ev A 2 _ (HE.out.later (HI1.out.later ((Below.refl _ _).alloc (Nat.le_refl _) _)).bel) (by omega)).mono ?_
   rintro e v2 ⟨rfl,hb2⟩
   have hr2:v2.heap[v1.heap.size]? = some (.cells #[.int .i64 0,.int .i64 0,.int .i64 0] 34 (0,0)):=(hb2.block v1.heap.size (by simp)).trans (heap_alloc_new v1 _)
   have HI2:=hid ((HI1.out.later ((Below.refl _ _).alloc (Nat.le_refl _) _)).later hb2)
   have c0:v2.cell? ⟨v1.heap.size,0,none⟩=some (.int .i64 0):=by rw [cell_of_row _ _ _ _ _ _ hr2]; rfl
   have c1:v2.cell? ⟨v1.heap.size,1,none⟩=some (.int .i64 0):=by rw [cell_of_row _ _ _ _ _ _ hr2]; rfl
   have c2:v2.cell? ⟨v1.heap.size,2,none⟩=some (.int .i64 0):=by rw [cell_of_row _ _ _ _ _ _ hr2]; rfl
   clear hb2 hr2
   go_wp2_with fail
   go_ret
   exact ⟨rfl,HI2.out.bel⟩
end Go.Proofs.YtkopfpaldmapdaaDoor
