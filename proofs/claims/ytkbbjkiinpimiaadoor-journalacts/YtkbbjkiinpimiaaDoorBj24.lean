/-
  On the way to ActsProof: RX.
-/
import Derived.Test.YtkbbjkiinpimiaaDoorBj23
set_option maxHeartbeats 8000000
set_option maxRecDepth 100000
namespace Go.Proofs.YtkbbjkiinpimiaaDoor
open Go.RowKit
theorem jacts_early (A:Nat→Addr) (s:ByteArray) (ad:Option Addr) (n cap:Nat) (w:World) (hE:Held9 w A) (hm:n≤9223372036854775807) (hs:512<s.size ∨ 60<n) :
  Calls Tryd.prog 11 #[.string s,.slice ad n cap] w fun e w'=>e=.returned (.bool true)∧Below w.heap.size w w':=by
 have HE:=hid hE
 clear hE
 by_cases h1:512<s.size
 ·have hg:decide ((512:Int)<(s.size:Int))=true:=decide_eq_true (by omega)
  go_enter Tryd.func11,Tryd.ntmps11
  go_wp2_with fail
  refine (written_any A w HE.out.toE).mono ?_
  rintro e w1 ⟨rfl,hb1⟩
  have HB1:=hid hb1
  clear hb1
  go_wp2_with fail
  go_ret
  exact ⟨rfl,HB1.out⟩
 ·have hg:decide ((512:Int)<(s.size:Int))=false:=decide_eq_false (by omega)
  have hg2:decide ((60:Int)<(n:Int))=true:=decide_eq_true (by omega)
  go_enter Tryd.func11,Tryd.ntmps11
  go_wp2_with fail
  refine (written_any A w HE.out.toE).mono ?_
  rintro e w1 ⟨rfl,hb1⟩
  have HB1:=hid hb1
  clear hb1
  go_wp2_with fail
  go_ret
  exact ⟨rfl,HB1.out⟩
theorem jacts_short (A:Nat→Addr) (s:ByteArray) (ad:Option Addr) (n cap:Nat) (w:World) (hE:Held9 w A) (hs:s.size<216) (hn:n≤60) :
  Calls Tryd.prog 11 #[.string s,.slice ad n cap] w fun e w'=>e=.returned (.bool true)∧Below w.heap.size w w':=by
 have HE:=hid hE
 clear hE
 have hg:decide ((512:Int)<(s.size:Int))=false:=decide_eq_false (by omega)
 have hg2:decide ((60:Int)<(n:Int))=false:=decide_eq_false (by omega)
 have HrC:Hid (rC s (-1) 0 216=1+1):=by unfold Hid rC; rw [if_pos (by omega)]
 go_enter Tryd.func11,Tryd.ntmps11
 go_wp2_with fail
 refine (written_any A w HE.out.toE).mono ?_
 rintro e w1 ⟨rfl,hb1⟩
 have HB1:=hid hb1
 clear hb1
 go_wp2_with fail
 refine (open_nil A w1 (HE.out.later HB1.out).toE).mono ?_
 rintro e w2 ⟨rfl,hb2⟩
 have HB2:=hid (HB1.out.trans (hb2.mono HB1.out.size))
 clear hb2
 go_wp2_with fail
 refine (coded_ev A 3 w2 (HE.out.later HB2.out) (by omega)).mono ?_
 rintro e w3 ⟨rfl,hb3⟩
 have HB3:=hid (HB2.out.trans (hb3.mono HB2.out.size))
 clear hb3
 go_wp2_with fail
 refine (pfrom_ok s w3 (by omega)).mono ?_
 rintro e w4 ⟨rfl,hP,hb4,-⟩
 have HB4:=hid (HB3.out.trans (hb4.mono HB3.out.size))
 have HP:=hid hP
 clear hP hb4
 go_wp2_with fail
 refine (open_bad A _ _ s (-1) 1 w4 HP.out (HE.out.later HB4.out).toE (by omega) HrC.out).mono ?_
 rintro e wx ⟨rfl,hx⟩
 subst wx
 obtain ⟨X,HX⟩:∃ X,Hid (w4.alloc (.cells #[.string s,.bool false,.int .i64 0,.bool false] 58)=X):=⟨_,rfl⟩
 have HBX:Hid (Below w.heap.size w X):=by rw [← HX.out]; exact HB4.out.alloc HB4.out.size _
 have HRX:Hid (RP X w4.heap.size s false 0 false):=by rw [← HX.out]; exact heap_alloc_new w4 _
 go_wp2_with fail
 rw [HX.out]
 refine (ropenerr_any w4.heap.size s false false 0 X HRX.out (by omega)).mono ?_
 rw [if_pos hs]
 rintro e wx ⟨rfl,hx⟩
 subst wx
 go_wp2_with fail
 refine (coded_ev A 2 X (HE.out.later HBX.out) (by omega)).mono ?_
 rintro e w5 ⟨rfl,hb5⟩
 have HB5:=hid (HBX.out.trans (hb5.mono HBX.out.size))
 clear hb5
 go_wp2_with fail
 go_ret
 exact ⟨rfl,HB5.out⟩
end Go.Proofs.YtkbbjkiinpimiaaDoor
namespace Go.Proofs.YtkbbjkiinpimiaaDoor
open Go.RowKit
set_option linter.unusedSimpArgs false in
theorem jacts_main (A:Nat→Addr) (s:ByteArray) (ad:Option Addr) (cap:Nat) (xs:List Put6) (w:World) (hE:Held9 w A) (hs:s.size≤512) (h6:216≤s.size) (hx:PutsIn w ad xs) (hn:xs.length≤60) :
  Calls Tryd.prog 11 #[.string s,.slice ad xs.length cap] w fun e w'=>e=.returned (.bool true)∧Below w.heap.size w w':=by
 have HE:=hid hE
 have HX:=hid hx
 clear hE hx
 have hg:decide ((512:Int)<(s.size:Int))=false:=decide_eq_false (by omega)
 have hg2:decide ((60:Int)<(xs.length:Int))=false:=decide_eq_false (by omega)
 go_enter Tryd.func11,Tryd.ntmps11
 go_wp2_with fail
 refine (written_any A w HE.out.toE).mono ?_
 rintro e w1 ⟨rfl,hb1⟩
 have HB1:=hid hb1
 clear hb1
 go_wp2_with fail
 refine (open_nil A w1 (HE.out.later HB1.out).toE).mono ?_
 rintro e w2 ⟨rfl,hb2⟩
 have HB2:=hid (HB1.out.trans (hb2.mono HB1.out.size))
 clear hb2
 go_wp2_with fail
 refine (coded_ev A 3 w2 (HE.out.later HB2.out) (by omega)).mono ?_
 rintro e w3 ⟨rfl,hb3⟩
 have HB3:=hid (HB2.out.trans (hb3.mono HB2.out.size))
 clear hb3
 go_wp2_with fail
 refine (pfrom_ok s w3 (by omega)).mono ?_
 rintro e w4 ⟨rfl,hP,hb4,-⟩
 have HB4:=hid (HB3.out.trans (hb4.mono HB3.out.size))
 have hpq:=HB3.out.size
 obtain ⟨p,Hp⟩:∃ p,Hid (w3.heap.size+1=p):=⟨_,rfl⟩
 obtain ⟨q,Hq⟩:∃ q,Hid (w3.heap.size=q):=⟨_,rfl⟩
 have p0:w.heap.size≤p:=by rw [← Hp.out]; omega
 have q0:w.heap.size≤q:=by rw [← Hq.out]; omega
 rw [Hp.out,Hq.out] at hP
 have HP:=hid hP
 have hpp:=Hp.out
 clear hP hb4
 go_wp2_with fail
 refine (open_ok A p q s (-1) w4 HP.out (HE.out.later HB4.out).toE (by omega) h6 (by decide)).mono ?_
 rintro e w5 ⟨j,rfl,hJ,hb5,hj0⟩
 have HJ:=hid (jp_new HB4.out HP.out p0 q0 hJ hb5 hj0 (by omega) (by omega) (by omega) h6)
 clear hJ hb5 hj0 hpp
 obtain ⟨r,Hr⟩:∃ n,Hid (w5.heap.size=n):=⟨_,rfl⟩
 have hr:=Hr.out
 obtain ⟨X,HXw⟩:∃ X,Hid (w5.alloc (.cells #[.string s,.bool false,.int .i64 0,.bool false] 58)=X):=⟨_,rfl⟩
 have HJX:=hid (HJ.out.later (w':=X) (by rw [← HXw.out]; exact (Below.refl _ _).alloc (Nat.le_refl _) _))
 have HRX:Hid (RP X r s false 0 false):=by rw [← HXw.out,← Hr.out]; exact heap_alloc_new w5 _
 have HRJ:Hid (r≠j∧r≠p∧r≠q∧w.heap.size≤r):=by
  obtain ⟨e1,e2,e3⟩:=HJ.out.lts
  have e4:=HJ.out.bel.size
  rw [← Hr.out]
  exact ⟨by omega,by omega,by omega,e4⟩
 go_wp2_with fail
 rw [HXw.out]
 refine (ropenerr_any r s false false 0 X HRX.out (by omega)).mono ?_
 rw [if_neg (by omega)]
 rintro e wx ⟨rfl,hx⟩
 subst wx
 go_wp2_with fail
 refine (pbytes_any p q s (-1) X HJX.out.pl).mono ?_
 rintro e wx ⟨rfl,hx⟩
 subst wx
 have hss:(s.toList == s.toList)=true:=by simp
 go_wp2_with fail
 refine (ropen_any r s false false 0 X HRX.out (by omega) h6).mono ?_
 rintro e w6 ⟨m,gn,gs,rfl,hrj,hb6,m0,gn0,gs0⟩
 have HRl:Hid (r<X.heap.size):=row_ltJ HRX.out
 have HI0:Hid (Both w w6 p q r j m gn gs (dealL s.data.toList) false s (-1)):=by
  obtain ⟨e1,e2,e3⟩:=HJX.out.lts
  obtain ⟨d1,d2,d3,d4⟩:=HRJ.out
  have hrl:=HRl.out
  refine both_new (HJX.out.later hb6) ⟨hrj,⟨false,0,false,HRX.out.kept (S:=fun _=>False) (Kept.of_below hb6) (fun x=>x),.inr (.inl ⟨rfl,rfl,rfl⟩)⟩,by omega,by omega,by omega,by omega,h6⟩ (apart_new HJX.out.bel.size e1 e2 e3 d4 m0 gn0 gs0 d1 d2 d3)
 clear hrj hb6 m0 gn0 gs0 hr hss hg hg2 hpq
 go_wp2_with fail
 go_loopw [10,13,14] (fun vj vm i wr=>∃ (k j m gn gs:Nat) (E:Nat→Nat×St) (over:Bool) (B:ByteArray) (l:Int),k≤xs.length∧vj=.pointer (some ⟨j,0,none⟩)∧vm=.pointer (some ⟨m,0,none⟩)∧i=.int .i64 (k:Int)∧r≠p∧r≠q∧Both w wr p q r j m gn gs E over B l) (fun _ _ i _=>xs.length - (intOf i).toNat)
 case atStart=>exact ⟨0,j,m,gn,gs,_,_,_,_,Nat.zero_le _,rfl,rfl,rfl,HRJ.out.2.1,HRJ.out.2.2.1,HI0.out⟩
 case round =>
  clear HI0 HJX HJ HRX HRJ
  obtain ⟨k,j,m,gn,gs,E,over,B,l,hk,rfl,rfl,rfl,rp,rq,hI⟩:=hrel
  have HI:=hid hI
  clear hI
  by_cases hlt:k<xs.length
  ·obtain ⟨b,o,rfl,y0,y1,y2,y3,y4,y5,hc9⟩:=HX.out k hlt
   replace y0:=cell_later HI.out.1.bel y0
   replace y1:=cell_later HI.out.1.bel y1
   replace y2:=cell_later HI.out.1.bel y2
   replace y3:=cell_later HI.out.1.bel y3
   replace y4:=cell_later HI.out.1.bel y4
   replace y5:=cell_later HI.out.1.bel y5
   generalize (xs[k]'hlt).deal=dl at y0
   generalize (xs[k]'hlt).ph=ph at y1
   generalize (xs[k]'hlt).pr=pr at y2
   generalize (xs[k]'hlt).at_=at_ at y3
   generalize (xs[k]'hlt).cut=cu at y4 hc9
   generalize (xs[k]'hlt).boot=bo at y5
   obtain ⟨ab,Hab⟩:∃ n,Hid (wr.heap.size=n):=⟨_,rfl⟩
   obtain ⟨W,HW⟩:∃ W,Hid (wr.alloc (.cells #[.int .i64 dl,.int .i64 ph,.int .i64 pr,.int .i64 at_,.int .i64 cu,.bool bo] 76)=W):=⟨_,rfl⟩
   have hW:=HW.out
   have hab:=Hab.out
   have HIW:=hid (HI.out.later (w':=W) (by rw [← HW.out]; exact (Below.refl _ _).alloc (Nat.le_refl _) _))
   have RW:Hid (W.heap[ab]? = some (.cells #[.int .i64 dl,.int .i64 ph,.int .i64 pr,.int .i64 at_,.int .i64 cu,.bool bo] 76 (0,0))):=by rw [← HW.out,← Hab.out]; exact heap_alloc_new wr _
   have a5:W.cell? ⟨ab,5,none⟩=some (.bool bo):=by rw [cell_of_row _ _ _ _ _ _ RW.out]; rfl
   have HNA:Hid (¬ In3 j p q ab∧¬ In4 m gn gs r ab):=by
    obtain ⟨e1,e2,e3⟩:=HI.out.1.lts
    obtain ⟨e4,e5,e6,e7⟩:=HI.out.2.1.lts
    rw [← Hab.out]
    exact ⟨fun e=>by unfold In3 at e; omega,fun e=>by unfold In4 at e; omega⟩
   go_upto_if 98 with fail
   go_cut [10,13,16,17] from 87 to 160 (fun s10 s13 _ _ wx=>∃ (j' m' gn' gs':Nat) (E':Nat→Nat×St) (over':Bool) (l':Int),s10=.pointer (some ⟨j',0,none⟩)∧s13=.pointer (some ⟨m',0,none⟩)∧Both w wx p q r j' m' gn' gs' E' over' B l'∧wx.heap[ab]? = some (.cells #[.int .i64 dl,.int .i64 ph,.int .i64 pr,.int .i64 at_,.int .i64 cu,.bool bo] 76 (0,0))∧¬ In3 j' p q ab∧¬ In4 m' gn' gs' r ab)
   case first =>
    cases bo with
    | false =>
     go_wp2_with fail
     go_meet
     exact ⟨j,m,gn,gs,E,over,l,rfl,rfl,HIW.out,RW.out,HNA.out.1,HNA.out.2⟩
    | true =>
     go_wp2_with fail
     refine (jon_jp HIW.out.1).mono ?_
     rintro e v1 ⟨rfl,hj1,hk1⟩
     have HJ1:=hid hj1
     have HM1:=hid (HIW.out.2.1.far hk1 HIW.out.2.2.1.dis)
     have HA1:=hid (hk1.row RW.out HNA.out.1)
     clear hj1 hk1
     go_wp2_with fail
     refine (ron_rk HM1.out).mono ?_
     rintro e v2 ⟨rfl,hm2,hk2⟩
     have HM2:=hid hm2
     have HJ2:=hid (HJ1.out.far hk2 HIW.out.2.2.1.low HIW.out.2.2.1.dis)
     have HA2:=hid (hk2.row HA1.out HNA.out.2)
     clear hm2 hk2
     go_wp2_with fail
     refine (jopen_jp HJ2.out HE.out.toE).mono ?_
     rintro e v3 ⟨j',rfl,hj3,hb3,hj0⟩
     have HJ3:=hid hj3
     have HM3:=hid (HM2.out.later hb3)
     have HA3:=hid ((hb3.block _ (row_ltJ HA2.out)).trans HA2.out)
     have HJN:Hid (v2.heap.size≤j'):=hj0
     clear hj3 hb3 hj0
     go_wp2_with fail
     refine (ropen_rk HM3.out).mono ?_
     rintro e v4 ⟨m',gn',gs',rfl,hm4,hb4,g1,g2,g3⟩
     have HB4:Hid (Both w v4 p q r j' m' gn' gs' (dealL B.data.toList) false B (-1)):=by
      obtain ⟨e1,e2,e3⟩:=HJ3.out.lts
      have e4:=HM2.out.lts.2.2.2
      have e5:=HJN.out
      exact both_new (HJ3.out.later hb4) hm4 (apart_new HJ3.out.bel.size e1 e2 e3 (HIW.out.2.2.1.low r (.inr (.inr (.inr rfl)))) g1 g2 g3 (by omega) rp rq)
     have HA4:=hid ((hb4.block _ (row_ltJ HA3.out)).trans HA3.out)
     have HN4:Hid (¬ In3 j' p q ab∧¬ In4 m' gn' gs' r ab):=by
      have e1:=row_ltJ HA2.out
      have e2:=row_ltJ HA3.out
      have e5:=HJN.out
      obtain ⟨d1,d2⟩:=HNA.out
      unfold In3 at *
      unfold In4 at *
      exact ⟨fun e=>by omega,fun e=>by omega⟩
     clear hm4 hb4 g1 g2 g3
     go_wp2_with fail
     go_meet
     exact ⟨j',m',gn',gs',_,_,_,rfl,rfl,HB4.out,HA4.out,HN4.out.1,HN4.out.2⟩
   obtain ⟨j',m',gn',gs',E',over',l',rfl,rfl,hI',ha',hn1,hn2⟩:=hcut
   have HI':=hid hI'
   have RA:=hid ha'
   have HN':=hid (And.intro hn1 hn2)
   clear hI' ha' hn1 hn2 a5 hab hW
   generalize wc=wa at *
   have a4:wa.cell? ⟨ab,4,none⟩=some (.int .i64 cu):=by rw [cell_of_row _ _ _ _ _ _ RA.out]; rfl
   go_upto_region 30 with fail
   go_cut [131] from 87 to 160 (fun s131 wx=>s131=.bool false∧∃ l2:Int,Both w wx p q r j' m' gn' gs' E' over' B l2∧wx.heap[ab]? = some (.cells #[.int .i64 dl,.int .i64 ph,.int .i64 pr,.int .i64 at_,.int .i64 cu,.bool bo] 76 (0,0)))
   case first =>
    by_cases hcu:0≤cu
    ·have hcd:decide (0≤cu)=true:=decide_eq_true hcu
     obtain ⟨c,HCc⟩:∃ c,Hid (cC l' cu=c):=⟨_,rfl⟩
     obtain ⟨l2,HCl⟩:∃ c,Hid (cL l' cu=c):=⟨_,rfl⟩
     have HC9:Hid (c≤9):=by rw [← HCc.out]; exact cC_le _ _
     have HJd:=hid HI'.out.1.drew
     have HMd:=hid HI'.out.2.1.drew
     have RAd:Hid (wa.drew.heap[ab]? = some (.cells #[.int .i64 dl,.int .i64 ph,.int .i64 pr,.int .i64 at_,.int .i64 cu,.bool bo] 76 (0,0))):=RA.out
     have HKA:Hid (∀ wx:World,wx.heap[ab]? = some (.cells #[.int .i64 dl,.int .i64 ph,.int .i64 pr,.int .i64 at_,.int .i64 cu,.bool bo] 76 (0,0))→wx.cell? ⟨ab,4,none⟩=some (.int .i64 cu)):=fun wx hx=>by rw [cell_of_row _ _ _ _ _ _ hx]; rfl
     go_region_held3 (fun w'=>w'.cell? ⟨ab,4,none⟩=some (.int .i64 cu)) (go_keep) (first|(go_at_call 40; (with_reducible refine (jcut_jp cu c l2 HJd.out HE.out.toE hcu hc9 HCc.out HCl.out).mono ?_); rintro e v1 ⟨rfl,hj1,hk1⟩; have HJ1:=hid hj1; have HM1:=hid (HMd.out.far hk1 HI'.out.2.2.1.dis); have HA1:=hid (hk1.row RAd.out HN'.out.1); have x4:=HKA.out v1 HA1.out; clear hj1 hk1)|(go_at_call 41; (with_reducible refine (rcut_rk cu c l2 HM1.out hc9 HCc.out HCl.out).mono ?_); rintro e v2 ⟨rfl,hm2,hk2⟩; have HM2:=hid hm2; have HJ2:=hid (HJ1.out.far hk2 HI'.out.2.2.1.low HI'.out.2.2.1.dis); have HA2:=hid (hk2.row HA1.out HN'.out.2); have x4':=HKA.out v2 HA2.out; clear hm2 hk2)|(go_at_call 17; (with_reducible refine (coded_ev A c _ (HE.out.later HJ2.out.bel) HC9.out).mono ?_); rintro e v3 ⟨rfl,hb3⟩; have HJ3:=hid (HJ2.out.later hb3); have HM3:=hid (HM2.out.later hb3); have HA3:=hid ((hb3.block _ (row_ltJ HA2.out)).trans HA2.out); have x4'':=HKA.out v3 HA3.out; clear hb3))
     all_goals go_step
     all_goals go_step
     all_goals go_meet
     all_goals exact ⟨rfl,l2,⟨HJ3.out,HM3.out,HI'.out.2.2.1,HI'.out.2.2.2⟩,HA3.out⟩
    ·have hcd:decide (0≤cu)=false:=decide_eq_false hcu
     have HZ:=hid (fun nq=>HI'.out.later (w':=wa.drewN nq) (below_drewN (Below.refl _ _) nq))
     have HZA:Hid (∀ nq,(wa.drewN nq).heap[ab]? = some (.cells #[.int .i64 dl,.int .i64 ph,.int .i64 pr,.int .i64 at_,.int .i64 cu,.bool bo] 76 (0,0))):=fun nq=>by rw [heap_drewJ]; exact RA.out
     go_quiet (fail)
     all_goals go_wp2_with fail
     all_goals go_meet
     all_goals exact ⟨rfl,l',HZ.out _,HZA.out _⟩
   obtain ⟨rfl,l2,hI2,ha2⟩:=hcut
   have HI2:=hid hI2
   have RB:=hid ha2
   clear hI2 ha2 a4
   generalize wc=wb at *
   obtain ⟨⟨oc,oe,oo,ob,ol⟩,HO⟩:∃ o,Hid (pOut E' over' B l2 dl ph pr at_=o):=⟨_,rfl⟩
   have HO9:Hid (oc≤9):=by have:=pOut_c (E:=E') (over:=over') (B:=B) (l:=l2) dl ph pr at_; rw [HO.out] at this; exact this
   have HON:Hid (∀ d,d<6→(oe d).1<4294967296):=by have:=pOut_n (over:=over') (B:=B) (l:=l2) dl ph pr at_ HI2.out.2.2.2; rw [HO.out] at this; exact this
   have HKA:Hid (∀ w':World,w'.heap[ab]? = some (.cells #[.int .i64 dl,.int .i64 ph,.int .i64 pr,.int .i64 at_,.int .i64 cu,.bool bo] 76 (0,0))→w'.cell? ⟨ab,0,none⟩=some (.int .i64 dl)∧w'.cell? ⟨ab,1,none⟩=some (.int .i64 ph)∧w'.cell? ⟨ab,2,none⟩=some (.int .i64 pr)∧w'.cell? ⟨ab,3,none⟩=some (.int .i64 at_)):=fun w' hx=>by
    refine ⟨?_,?_,?_,?_⟩
    all_goals (rw [cell_of_row _ _ _ _ _ _ hx]; rfl)
   obtain ⟨a0,a1,a2,a3⟩:=HKA.out wb RB.out
   have HJd:=hid HI2.out.1.drew
   have HMd:=hid HI2.out.2.1.drew
   have HNm:Hid (∀ d,d<6→(E' d).1<4294967296):=HI2.out.2.2.2
   have RBd:Hid (wb.drew.heap[ab]? = some (.cells #[.int .i64 dl,.int .i64 ph,.int .i64 pr,.int .i64 at_,.int .i64 cu,.bool bo] 76 (0,0))):=RB.out
   have hob:(ob.toList == ob.toList)=true:=by simp
   go_wp2_with fail
   refine wp_region_held_drew (S:=fun w'=>w'.cell? ⟨ab,0,none⟩=some (.int .i64 dl)∧w'.cell? ⟨ab,1,none⟩=some (.int .i64 ph)∧w'.cell? ⟨ab,2,none⟩=some (.int .i64 pr)∧w'.cell? ⟨ab,3,none⟩=some (.int .i64 at_)) (by kernel_rfl) ⟨a0,a1,a2,a3⟩ (fun hHeld=>?_)
   refine wpAnyH_take (i:=0) (v:=?_) rfl (by kernel_rfl) (by kernel_rfl) (by kernel_rfl) (fun _ _ _ h=>h) (Or.inl ⟨by rfl,?_⟩) hHeld ?_
   rotate_left 1
   ·(intro w hSw; (try dsimp only at hSw); go_simp; (first|done|with_reducible rfl))
   change wpAnyH _ _ _ _ _ _ _ (Act.put _ (some 132) _) _
   simp only [Act.put,List.setIfInBounds_toArray,List.set_cons_zero,List.set_cons_succ]
   refine wpAnyH_take (i:=1) (v:=?_) rfl (by kernel_rfl) (by kernel_rfl) (by kernel_rfl) (fun _ _ _ h=>h) (Or.inl ⟨by rfl,?_⟩) hHeld ?_
   rotate_left 1
   ·(intro w hSw; (try dsimp only at hSw); go_simp; (first|done|with_reducible rfl))
   change wpAnyH _ _ _ _ _ _ _ (Act.put _ (some 133) _) _
   simp only [Act.put,List.setIfInBounds_toArray,List.set_cons_zero,List.set_cons_succ]
   refine wpAnyH_take (i:=2) (v:=?_) rfl (by kernel_rfl) (by kernel_rfl) (by kernel_rfl) (fun _ _ _ h=>h) (Or.inl ⟨by rfl,?_⟩) hHeld ?_
   rotate_left 1
   ·(intro w hSw; (try dsimp only at hSw); go_simp; (first|done|with_reducible rfl))
   change wpAnyH _ _ _ _ _ _ _ (Act.put _ (some 134) _) _
   simp only [Act.put,List.setIfInBounds_toArray,List.set_cons_zero,List.set_cons_succ]
   refine wpAnyH_take (i:=3) (v:=?_) rfl (by kernel_rfl) (by kernel_rfl) (by kernel_rfl) (fun _ _ _ h=>h) (Or.inl ⟨by rfl,?_⟩) hHeld ?_
   rotate_left 1
   ·(intro w hSw; (try dsimp only at hSw); go_simp; (first|done|with_reducible rfl))
   change wpAnyH _ _ _ _ _ _ _ (Act.put _ (some 135) _) _
   simp only [Act.put,List.setIfInBounds_toArray,List.set_cons_zero,List.set_cons_succ]
   refine wpAnyH_take (i:=4) (v:=?_) rfl (by kernel_rfl) (by kernel_rfl) (by kernel_rfl) (fun _ _ _ h=>h) (Or.inl ⟨by rfl,?_⟩) hHeld ?_
   rotate_left 1
   ·(intro w hSw; (try dsimp only at hSw); go_simp; (first|done|with_reducible rfl))
   change wpAnyH _ _ _ _ _ _ _ (Act.put _ (some 136) _) _
   simp only [Act.put,List.setIfInBounds_toArray,List.set_cons_zero,List.set_cons_succ]
   refine wpAnyH_take (i:=6) (v:=?_) rfl (by kernel_rfl) (by kernel_rfl) (by kernel_rfl) (fun _ _ _ h=>h) (Or.inl ⟨by rfl,?_⟩) hHeld ?_
   rotate_left 1
   ·(intro w hSw; (try dsimp only at hSw); go_simp; (first|done|with_reducible rfl))
   change wpAnyH _ _ _ _ _ _ _ (Act.put _ (some 138) _) _
   simp only [Act.put,List.setIfInBounds_toArray,List.set_cons_zero,List.set_cons_succ]
   refine wpAnyH_take (i:=7) (v:=?_) rfl (by kernel_rfl) (by kernel_rfl) (by kernel_rfl) (fun _ _ _ h=>h) (Or.inl ⟨by rfl,?_⟩) hHeld ?_
   rotate_left 1
   ·(intro w hSw; (try dsimp only at hSw); go_simp; (first|done|with_reducible rfl))
   change wpAnyH _ _ _ _ _ _ _ (Act.put _ (some 139) _) _
   simp only [Act.put,List.setIfInBounds_toArray,List.set_cons_zero,List.set_cons_succ]
   refine wpAnyH_take (i:=8) (v:=?_) rfl (by kernel_rfl) (by kernel_rfl) (by kernel_rfl) (fun _ _ _ h=>h) (Or.inl ⟨by rfl,?_⟩) hHeld ?_
   rotate_left 1
   ·(intro w hSw; (try dsimp only at hSw); go_simp; (first|done|with_reducible rfl))
   change wpAnyH _ _ _ _ _ _ _ (Act.put _ (some 140) _) _
   simp only [Act.put,List.setIfInBounds_toArray,List.set_cons_zero,List.set_cons_succ]
   refine wpAnyH_take (i:=9) (v:=?_) rfl (by kernel_rfl) (by kernel_rfl) (by kernel_rfl) (fun _ _ _ h=>h) (Or.inl ⟨by rfl,?_⟩) hHeld ?_
   rotate_left 1
   ·(intro w hSw; (try dsimp only at hSw); go_simp; (first|done|with_reducible rfl))
   change wpAnyH _ _ _ _ _ _ _ (Act.put _ (some 141) _) _
   simp only [Act.put,List.setIfInBounds_toArray,List.set_cons_zero,List.set_cons_succ]
   refine wpAnyH_take (i:=10) (v:=?_) rfl (by kernel_rfl) (by kernel_rfl) (by kernel_rfl) (fun _ _ _ h=>h) (Or.inl ⟨by rfl,?_⟩) hHeld ?_
   rotate_left 1
   ·(intro w hSw; (try dsimp only at hSw); go_simp; (first|done|with_reducible rfl))
   change wpAnyH _ _ _ _ _ _ _ (Act.put _ (some 142) _) _
   simp only [Act.put,List.setIfInBounds_toArray,List.set_cons_zero,List.set_cons_succ]
   refine wpAnyH_ready (rs:=[5]) (by kernel_rfl) (by simp) ?_
   refine AllReadyH.cons rfl (fun K hK=>?_) AllReadyH.nil
   go_simp
   refine (jput_any dl ph pr at_ ⟨oc,oe,oo,ob,ol⟩ HO.out HJd.out HE.out.toE HNm.out).mono ?_; rintro e v1 ⟨rfl,hj1,hk1⟩; have HJ1:=hid hj1; have HM1:=hid (HMd.out.far hk1 HI2.out.2.2.1.dis); have HA1:=hid (hk1.row RBd.out HN'.out.1); clear hj1 hk1
   go_wp2_with fail
   refine hK.out _ _ (HKA.out v1 HA1.out) (fun hHeld=>?_)
   clear hK K
   try simp only [Act.put,List.setIfInBounds_toArray,List.set_cons_zero,List.set_cons_succ]
   refine wpAnyH_ready (rs:=[11]) (by kernel_rfl) (by simp) ?_
   refine AllReadyH.cons rfl (fun K hK=>?_) AllReadyH.nil
   go_simp
   refine (rput_any dl ph pr at_ ⟨oc,oe,oo,ob,ol⟩ HO.out HM1.out HNm.out).mono ?_; rintro e v2 ⟨rfl,hm2,hk2⟩; have HM2:=hid hm2; have HJ2:=hid (HJ1.out.far hk2 HI2.out.2.2.1.low HI2.out.2.2.1.dis); have HA2:=hid (hk2.row HA1.out HN'.out.2); clear hm2 hk2
   go_wp2_with fail
   refine hK.out _ _ (HKA.out v2 HA2.out) (fun hHeld=>?_)
   clear hK K
   try simp only [Act.put,List.setIfInBounds_toArray,List.set_cons_zero,List.set_cons_succ]
   refine wpAnyH_ready (rs:=[12]) (by kernel_rfl) (by simp) ?_
   refine AllReadyH.cons rfl (fun K hK=>?_) AllReadyH.nil
   go_simp
   refine (coded_ev A oc _ (HE.out.later HJ2.out.bel) HO9.out).mono ?_; rintro e v3 ⟨rfl,hb3⟩; have HJ3:=hid (HJ2.out.later hb3); have HM3:=hid (HM2.out.later hb3); have HA3:=hid ((hb3.block _ (row_ltJ HA2.out)).trans HA2.out); clear hb3
   go_wp2_with fail
   refine hK.out _ _ (HKA.out v3 HA3.out) (fun hHeld=>?_)
   clear hK K
   try simp only [Act.put,List.setIfInBounds_toArray,List.set_cons_zero,List.set_cons_succ]
   refine wpAnyH_take (i:=13) (v:=?_) rfl (by kernel_rfl) (by kernel_rfl) (by kernel_rfl) (fun _ _ _ h=>h) (Or.inl ⟨by rfl,?_⟩) hHeld ?_
   rotate_left 1
   ·(intro w hSw; (try dsimp only at hSw); go_simp; (first|done|with_reducible rfl))
   change wpAnyH _ _ _ _ _ _ _ (Act.put _ (some 145) _) _
   simp only [Act.put,List.setIfInBounds_toArray,List.set_cons_zero,List.set_cons_succ]
   refine wpAnyH_take (i:=14) (v:=?_) rfl (by kernel_rfl) (by kernel_rfl) (by kernel_rfl) (fun _ _ _ h=>h) (Or.inl ⟨by rfl,?_⟩) hHeld ?_
   rotate_left 1
   ·(intro w hSw; (try dsimp only at hSw); go_simp; (first|done|with_reducible rfl))
   change wpAnyH _ _ _ _ _ _ _ (Act.put _ (some 146) _) _
   simp only [Act.put,List.setIfInBounds_toArray,List.set_cons_zero,List.set_cons_succ]
   refine wpAnyH_take (i:=15) (v:=?_) rfl (by kernel_rfl) (by kernel_rfl) (by kernel_rfl) (fun _ _ _ h=>h) (Or.inl ⟨by rfl,?_⟩) hHeld ?_
   rotate_left 1
   ·(intro w hSw; (try dsimp only at hSw); go_simp; (first|done|with_reducible rfl))
   change wpAnyH _ _ _ _ _ _ _ (Act.put _ (some 147) _) _
   simp only [Act.put,List.setIfInBounds_toArray,List.set_cons_zero,List.set_cons_succ]
   refine wpAnyH_take (i:=16) (v:=?_) rfl (by kernel_rfl) (by kernel_rfl) (by kernel_rfl) (fun _ _ _ h=>h) (Or.inl ⟨by rfl,?_⟩) hHeld ?_
   rotate_left 1
   ·(intro w hSw; (try dsimp only at hSw); go_simp; (first|done|with_reducible rfl))
   change wpAnyH _ _ _ _ _ _ _ (Act.put _ (some 148) _) _
   simp only [Act.put,List.setIfInBounds_toArray,List.set_cons_zero,List.set_cons_succ]
   refine wpAnyH_ready (rs:=[17]) (by kernel_rfl) (by simp) ?_
   refine AllReadyH.cons rfl (fun K hK=>?_) AllReadyH.nil
   go_simp
   refine (asj_any A _ j' p m' gn' gs' r oe oo oo ob ol (HE.out.later HJ3.out.bel) HJ3.out.jr HM3.out).mono ?_; rintro e v4 ⟨rfl,hb4⟩; have HJ4:=hid (HJ3.out.later hb4); have HM4:=hid (HM3.out.later hb4); have HA4:=hid ((hb4.block _ (row_ltJ HA3.out)).trans HA3.out); have xb:=HM4.out.bytes; clear hb4
   go_wp2_with fail
   refine hK.out _ _ (HKA.out v4 HA4.out) (fun hHeld=>?_)
   clear hK K
   try simp only [Act.put,List.setIfInBounds_toArray,List.set_cons_zero,List.set_cons_succ]
   refine wpAnyH_take (i:=18) (v:=?_) rfl (by kernel_rfl) (by kernel_rfl) (by kernel_rfl) (fun _ _ _ h=>h) (Or.inl ⟨by rfl,?_⟩) hHeld ?_
   rotate_left 1
   ·(intro w hSw; (try dsimp only at hSw); go_simp; (first|done|with_reducible rfl))
   change wpAnyH _ _ _ _ _ _ _ (Act.put _ (some 150) _) _
   simp only [Act.put,List.setIfInBounds_toArray,List.set_cons_zero,List.set_cons_succ]
   refine wpAnyH_take (i:=19) (v:=?_) rfl (by kernel_rfl) (by kernel_rfl) (by kernel_rfl) (fun _ _ _ h=>h) (Or.inl ⟨by rfl,?_⟩) hHeld ?_
   rotate_left 1
   ·(intro w hSw; (try dsimp only at hSw); go_simp; (first|done|with_reducible rfl))
   change wpAnyH _ _ _ _ _ _ _ (Act.put _ (some 151) _) _
   simp only [Act.put,List.setIfInBounds_toArray,List.set_cons_zero,List.set_cons_succ]
   refine wpAnyH_take (i:=20) (v:=?_) rfl (by kernel_rfl) (by kernel_rfl) (by kernel_rfl) (fun _ _ _ h=>h) (Or.inl ⟨by rfl,?_⟩) hHeld ?_
   rotate_left 1
   ·(intro w hSw; (try dsimp only at hSw); go_simp; (first|done|with_reducible rfl))
   change wpAnyH _ _ _ _ _ _ _ (Act.put _ (some 152) _) _
   simp only [Act.put,List.setIfInBounds_toArray,List.set_cons_zero,List.set_cons_succ]
   refine wpAnyH_take (i:=21) (v:=?_) rfl (by kernel_rfl) (by kernel_rfl) (by kernel_rfl) (fun _ _ _ h=>h) (Or.inl ⟨by rfl,?_⟩) hHeld ?_
   rotate_left 1
   ·(intro w hSw; (try dsimp only at hSw); go_simp; (first|done|with_reducible rfl))
   change wpAnyH _ _ _ _ _ _ _ (Act.put _ (some 153) _) _
   simp only [Act.put,List.setIfInBounds_toArray,List.set_cons_zero,List.set_cons_succ]
   refine wpAnyH_take (i:=23) (v:=?_) rfl (by kernel_rfl) (by kernel_rfl) (by kernel_rfl) (fun _ _ _ h=>h) (Or.inl ⟨by rfl,?_⟩) hHeld ?_
   rotate_left 1
   ·(intro w hSw; (try dsimp only at hSw); go_simp; (first|done|with_reducible rfl))
   change wpAnyH _ _ _ _ _ _ _ (Act.put _ (some 155) _) _
   simp only [Act.put,List.setIfInBounds_toArray,List.set_cons_zero,List.set_cons_succ]
   refine wpAnyH_take (i:=24) (v:=?_) rfl (by kernel_rfl) (by kernel_rfl) (by kernel_rfl) (fun _ _ _ h=>h) (Or.inl ⟨by rfl,?_⟩) hHeld ?_
   rotate_left 1
   ·(intro w hSw; (try dsimp only at hSw); go_simp; (first|done|with_reducible rfl))
   change wpAnyH _ _ _ _ _ _ _ (Act.put _ (some 156) _) _
   simp only [Act.put,List.setIfInBounds_toArray,List.set_cons_zero,List.set_cons_succ]
   refine wpAnyH_take (i:=25) (v:=?_) rfl (by kernel_rfl) (by kernel_rfl) (by kernel_rfl) (fun _ _ _ h=>h) (Or.inl ⟨by rfl,?_⟩) hHeld ?_
   rotate_left 1
   ·(intro w hSw; (try dsimp only at hSw); go_simp; (first|done|with_reducible rfl))
   change wpAnyH _ _ _ _ _ _ _ (Act.put _ (some 157) _) _
   simp only [Act.put,List.setIfInBounds_toArray,List.set_cons_zero,List.set_cons_succ]
   refine wpAnyH_mono (S:=fun w'=>w'.cell? ⟨ab,0,none⟩=some (.int .i64 dl)∧w'.cell? ⟨ab,1,none⟩=some (.int .i64 ph)∧w'.cell? ⟨ab,2,none⟩=some (.int .i64 pr)∧w'.cell? ⟨ab,3,none⟩=some (.int .i64 at_)∧w'.cell? ⟨r,0,none⟩=some (.string ob)) (fun _ h=>⟨h.1,h.2.1,h.2.2.1,h.2.2.2.1⟩) _ _ _ _ ?_
   replace hHeld:=And.intro hHeld.1 (And.intro hHeld.2.1 (And.intro hHeld.2.2.1 (And.intro hHeld.2.2.2 xb)))
   refine wpAnyH_take (i:=26) (v:=?_) rfl (by kernel_rfl) (by kernel_rfl) (by kernel_rfl) (fun _ _ _ h=>h) (Or.inl ⟨by rfl,?_⟩) hHeld ?_
   rotate_left 1
   ·(intro w hSw; (try dsimp only at hSw); go_simp; (first|done|with_reducible rfl))
   change wpAnyH _ _ _ _ _ _ _ (Act.put _ (some 158) _) _
   simp only [Act.put,List.setIfInBounds_toArray,List.set_cons_zero,List.set_cons_succ]
   refine wpAnyH_ready (rs:=[22]) (by kernel_rfl) (by simp) ?_
   refine AllReadyH.cons rfl (fun K hK=>?_) AllReadyH.nil
   go_simp
   have hHeld0:=hHeld
   refine (pbytes_any p q ob ol _ HJ4.out.pl).mono ?_; rintro e wx ⟨rfl,hx⟩; subst wx
   go_wp2_with fail
   refine hK.out _ _ hHeld0 (fun hHeld=>?_)
   clear hK K
   try simp only [Act.put,List.setIfInBounds_toArray,List.set_cons_zero,List.set_cons_succ]
   refine wpAnyH_take (i:=27) (v:=?_) rfl (by kernel_rfl) (by kernel_rfl) (by kernel_rfl) (fun _ _ _ h=>h) (Or.inl ⟨by rfl,?_⟩) hHeld ?_
   rotate_left 1
   ·(intro w hSw; (try dsimp only at hSw); go_simp; (first|done|with_reducible rfl))
   change wpAnyH _ _ _ _ _ _ _ (Act.put _ (some 159) _) _
   simp only [Act.put,List.setIfInBounds_toArray,List.set_cons_zero,List.set_cons_succ]
   refine wpAnyH_take (i:=28) (v:=?_) rfl (by kernel_rfl) (by kernel_rfl) (by kernel_rfl) (fun _ _ _ h=>h) (Or.inl ⟨by rfl,?_⟩) hHeld ?_
   rotate_left 1
   ·(intro w hSw; (try dsimp only at hSw); go_simp; (first|done|with_reducible rfl))
   change wpAnyH _ _ _ _ _ _ _ (Act.put _ (some 160) _) _
   simp only [Act.put,List.setIfInBounds_toArray,List.set_cons_zero,List.set_cons_succ]
   refine wpAnyH_done (by kernel_rfl) ?_ _
   go_wp2_with fail
   go_roundw
   case rel=>exact ⟨k+1,j',m',gn',gs',oe,oo,ob,ol,by omega,rfl,rfl,by go_num,rp,rq,HJ4.out,HM4.out,HI2.out.2.2.1,HON.out⟩
   case measure=>simp [intOf]; omega
  ·obtain rfl:k=xs.length:=by omega
   have HBl:=hid HI.out.1.bel
   go_wp2_with fail
   go_ret
   exact ⟨rfl,HBl.out⟩
end Go.Proofs.YtkbbjkiinpimiaaDoor
