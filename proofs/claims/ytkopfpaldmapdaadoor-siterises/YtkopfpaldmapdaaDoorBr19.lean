/-
  On the way to RisesProof: SC SD SE.
-/
import Derived.Test.YtkopfpaldmapdaaDoorBr18
import Derived.Test.YtkopfpaldmapdaaDoorBr6
import Derived.Deep.CutBlock
set_option maxHeartbeats 8000000
set_option maxRecDepth 100000
namespace Go.Proofs.YtkopfpaldmapdaaDoor
open Go.RowKit
theorem votes_hear (A:Nat→Addr) (w0 w:World) (s j mb p q n:Nat) (h:SP w0 w s j mb p q 1 (fun _=>false) n (dealL (zeroB 512).data.toList) false (zeroB 512) (-1)) (hE:HeldE w0 A) :
  Calls Tryd.prog 14 #[.pointer (some ⟨s,0,none⟩),frV 0 1 0 1 0 false 0 0 0] w fun e w'=>∃ gb cap,e=.returned (.tuple #[.slice (some ⟨gb,0,none⟩) 1 cap,.nilIface])∧w'.cell? ⟨gb,3,none⟩=some (.int .i64 2)∧w'.cell? ⟨gb,5,none⟩=some (.bool true)∧Below w0.heap.size w0 w':=by
 have hz:=deal_zero 512 0 (by omega)
 have hB:216≤(zeroB 512).size:=by rw [zeroB_size]; omega
 have hn:(dealL (zeroB 512).data.toList 0).1+1<4294967295:=by rw [hz]; decide
 have hf:=put_free (B:=zeroB 512) (d:=0) (s:=⟨1,0,0⟩) hB (by decide) hn
 have hg:hearL (dealL (zeroB 512).data.toList 0).2 ((fun _=>false) 0) 1 0 0=⟨⟨1,0,0⟩,2,true⟩:=by rw [hz]; rfl
 obtain ⟨o,ho⟩:∃ o,pOut (dealL (zeroB 512).data.toList) false (zeroB 512) (-1) (0:Nat) (1:Nat) (0:Nat) (0:Nat)=o:=⟨_,rfl⟩
 have hc:o.c=0:=by
  rw [← ho]
  unfold pOut
  rw [if_neg (by decide),if_pos ⟨by omega,by decide⟩]
  exact hf.1
 refine (shear_in A w0 w s j mb p q n 1 0 0 1 0 0 0 0 false (fun _=>false) _ false _ (-1) _ o h hE (fun d _=>deal_lt _ d) ⟨by omega,by omega,by omega,by omega,by omega,by omega,by omega,by omega⟩ hg ho).mono ?_
 rintro e w' ⟨v,rfl,hv,hs,hk⟩
 rw [hc] at hv ⊢
 unfold AnsV at hv
 rw [if_pos ⟨rfl,by decide⟩] at hv
 obtain ⟨gb,cap,rfl,hr⟩:=hv
 refine ⟨gb,cap,rfl,?_,?_,hs.jp.bel⟩
 ·rw [cell_of_row _ _ _ _ _ _ hr]; rfl
 ·rw [cell_of_row _ _ _ _ _ _ hr]; rfl
theorem votes_any (A:Nat→Addr) (w:World) (hE:HeldE w A) :
  Calls Tryd.prog 8 #[] w fun e w'=>e=.returned (.bool true)∧Below w.heap.size w w':=by
 have HE:=hid hE
 clear hE
 go_enter Tryd.func8,Tryd.ntmps8
 go_wp2_with fail
 refine (pnew_ok 512 _ (by omega)).mono ?_
 rintro e w1 ⟨rfl,hP1,hb1,hs1⟩
 have HP1:=hid hP1
 have HB1:=hid hb1
 have HE1:=hid (HE.out.later hb1)
 clear hP1 hb1
 go_wp2_with fail
 refine (snew_ok A 1 _ _ _ (-1) _ HP1.out HE1.out (by rw [zeroB_size]; omega) (by rw [zeroB_size]; omega) (by omega) (by omega) (by omega)).mono ?_
 rintro e w2 ⟨s,j,mb,rfl,hJ,hS,hb2,hj0,hjm,hms⟩
 have HS:=hid (sp_new HB1.out HP1.out (by omega) (Nat.le_refl _) hJ hS hb2 hj0 hjm hms (by omega) (by omega) (by rw [zeroB_size]; omega) (by rw [zeroB_size]; omega))
 clear hJ hS hb2 hj0 hjm hms
 go_wp2_with fail
 refine (votes_hear A w _ s j mb _ _ 0 HS.out HE.out).mono ?_
 rintro e w3 ⟨gb,cap,rfl,hc3,hc5,hb3⟩
 have HB3:=hid hb3
 clear hb3
 go_wp2_with fail
 go_ret
 exact ⟨rfl,HB3.out⟩
def Rise (a b:St):Prop:=a.pr≤b.pr∧a.at_≤b.at_∧mayN a.ph b.ph
theorem Rise.refl {s:St} (h:s.good):Rise s s:=⟨Nat.le_refl _,Nat.le_refl _,h.1,h.1,.inl rfl⟩
structure RI (w0 w:World) (s j mb p q nb n:Nat) (R:Nat→Bool) (over:Bool) (B:ByteArray) (l:Int) (m:Nat) (N:Nat→St):Prop where
 sp:SP w0 w s j mb p q (0:Nat) R n (dealL B.data.toList) over B l
 well:Well B over l m
 hn:n≤m
 nr:NR w nb N
 nb0:w0.heap.size≤nb
 nbs:nb≠s
 nbm:nb≠mb
 nbj:¬ In3 j p q nb
section
variable {w0 w w':World} {s j mb p q nb n m:Nat} {R:Nat→Bool} {over:Bool} {B:ByteArray} {l:Int} {N:Nat→St}
theorem RI.later (h:RI w0 w s j mb p q nb n R over B l m N) (hb:Below w.heap.size w w'):RI w0 w' s j mb p q nb n R over B l m N :=
 ⟨h.sp.later hb,h.well,h.hn,h.nr.later hb h.nr.lt,h.nb0,h.nbs,h.nbm,h.nbj⟩
theorem RI.drew (h:RI w0 w s j mb p q nb n R over B l m N):RI w0 w.drew s j mb p q nb n R over B l m N:=h.later (Below.refl _ _).drew
theorem RI.mono {k:Nat} (h:RI w0 w s j mb p q nb n R over B l m N) (hk:m≤k):RI w0 w s j mb p q nb n R over B l k N :=
 ⟨h.sp,h.well.mono hk,Nat.le_trans h.hn hk,h.nr,h.nb0,h.nbs,h.nbm,h.nbj⟩
theorem RI.bel (h:RI w0 w s j mb p q nb n R over B l m N):Below w0.heap.size w0 w:=h.sp.jp.bel
theorem RI.turn {over':Bool} {B':ByteArray} {l':Int} {m':Nat} (h:RI w0 w s j mb p q nb n R over B l m N) (hs:SP w0 w' s j mb p q (0:Nat) R n (dealL B'.data.toList) over' B' l') (hk:Kept (In3 j p q) w w') (hw:Well B' over' l' m') (hm:m≤m'):RI w0 w' s j mb p q nb n R over' B' l' m' N :=
 ⟨hs,hw,Nat.le_trans h.hn hm,hk.row h.nr h.nbj,h.nb0,h.nbs,h.nbm,h.nbj⟩
theorem RI.refuse {d:Nat} (h:RI w0 w s j mb p q nb n R over B l m N) (hr:SR w' s j mb (0:Nat) (updR R d) (n+1)) (hk:Kept (In1 mb) w w'):RI w0 w' s j mb p q nb (n+1) (updR R d) over B l (m+1) N :=
 ⟨h.sp.refuse hr hk,h.well.mono (Nat.le_succ _),Nat.succ_le_succ h.hn,hk.row h.nr (fun e=>h.nbm e),h.nb0,h.nbs,h.nbm,h.nbj⟩
theorem RI.boot {s' j' mb':Nat} {w1:World} (h:RI w0 w1 s j mb p q nb n R over B l m N) (hs:SP w0 w' s' j' mb' p q (0:Nat) (fun _=>false) 0 (dealL B.data.toList) false B (-1)) (hb:Below w1.heap.size w1 w') (h1:w1.heap.size≤j') (h2:w1.heap.size≤s') (h3:w1.heap.size≤mb') :
  RI w0 w' s' j' mb' p q nb 0 (fun _=>false) false B (-1) m N:=by
 have e:=h.nr.lt
 refine ⟨hs,h.well.boot,Nat.zero_le _,h.nr.later hb h.nr.lt,h.nb0,by omega,by omega,fun g=>?_⟩
 have g2:=h.nbj
 unfold In3 at g g2
 omega
theorem RI.list {N':Nat→St} (h:RI w0 w s j mb p q nb n R over B l m N) (hk:Kept (In1 nb) w w') (hn:NR w' nb N'):RI w0 w' s j mb p q nb n R over B l m N' :=
 ⟨h.sp.far hk (fun x e=>by unfold In1 at e; rw [e]; exact h.nb0) (fun x hx e=>by unfold In1 at e; exact h.nbj (e ▸ hx)) (fun e=>h.nbs e.symm) (fun e=>h.nbm e.symm),h.well,h.hn,hn,h.nb0,h.nbs,h.nbm,h.nbj⟩
end
theorem hear_rises {B:ByteArray} {over:Bool} {l:Int} {m d k a ph:Nat} {r:Bool} {g:HOut} {o:POut} (hB:216≤B.size) (h:Well B over l m) (hm:m<1000) (hd:d<6) (ha:a≤1048576) (hp:ph≤5) (hg:hearL (dealL B.data.toList d).2 r k a ph=g) (ho:pOut (dealL B.data.toList) over B l d g.st.ph g.st.pr g.st.at_=o) :
  o.e=dealL o.b.data.toList∧Well o.b o.over o.l (m+1)∧(∀ e,e<6→Rise (dealL B.data.toList e).2 (dealL o.b.data.toList e).2)∧(o.c=0→(dealL o.b.data.toList d).2=g.st):=by
 subst hg
 obtain ⟨hgood,h1,h2,h3⟩:=hear_good (dealL B.data.toList d).2 r k a ph (h.good d hd) ha hp
 obtain ⟨e1,e2,e3,e4⟩:=put_well hB h hm hd hgood ho
 refine ⟨e1,e2,fun e he=>?_,fun hc=>?_⟩
 ·by_cases c:e=d
  ·subst c
   rcases e4 with ⟨-,q⟩|⟨-,q⟩
   ·rw [q]; exact ⟨h1,h2,h3⟩
   ·rw [q]; exact Rise.refl (h.good e he)
  ·rw [e3 e c]; exact Rise.refl (h.good e he)
 ·rcases e4 with ⟨-,q⟩|⟨c,-⟩
  ·exact q
  ·rw [c] at hc; cases hc
def mixN (L:List UInt8) (N:Nat→St) (e:Nat):Nat→St:=fun d=>if d<e then (dealL L d).2 else N d
theorem mixN_zero (L:List UInt8) (N:Nat→St):mixN L N 0=N:=by
 funext d; unfold mixN; rw [if_neg (Nat.not_lt_zero _)]
theorem mixN_here (L:List UInt8) (N:Nat→St) (e:Nat):mixN L N e e=N e:=if_neg (Nat.lt_irrefl _)
theorem mixN_step (L:List UInt8) (N:Nat→St) (e:Nat):updN (mixN L N e) e (dealL L e).2=mixN L N (e+1):=by
 funext d
 unfold updN mixN
 by_cases h:d=e
 ·subst h; rw [if_pos rfl,if_pos (Nat.lt_succ_self _)]
 ·rw [if_neg h]
  by_cases h2:d<e
  ·rw [if_pos h2,if_pos (by omega)]
  ·rw [if_neg h2,if_neg (by omega)]
theorem mixN_all (L:List UInt8) (N:Nat→St) (d:Nat) (hd:d<6):mixN L N 6 d=(dealL L d).2:=if_pos hd
theorem rises_early (A:Nat→Addr) (ad:Option Addr) (len cap:Nat) (w:World) (hE:HeldE w A) (hl:len≤9223372036854775807) (h:80<len) :
  Calls Tryd.prog 3 #[.slice ad len cap] w fun e w'=>e=.returned (.bool true)∧Below w.heap.size w w':=by
 have HE:=hid hE
 clear hE
 go_enter Tryd.func3,Tryd.ntmps3
 go_wp2_with (go_at_call 8; refine (votes_any A _ HE.out).mono ?_; rintro e w1 ⟨rfl,hb1⟩)
 go_ret
 exact ⟨rfl,hb1⟩
theorem ri_start {w0 w2:World} {p q s j mb:Nat} {B:ByteArray} (h:SP w0 w2 s j mb p q (0:Nat) (fun _=>false) 0 (dealL B.data.toList) false B (-1)) (hB:B=zeroB 512) :
  RI w0 (w2.alloc (.cells (stL St.zero ++ (stL St.zero ++ (stL St.zero ++ (stL St.zero ++ (stL St.zero ++ stL St.zero))))).toArray 34)) s j mb p q w2.heap.size 0 (fun _=>false) false B (-1) 0 (fun _=>St.zero):=by
 obtain ⟨e1,e2,e3,e4,e5⟩:=h.lts
 refine ⟨h.later ((Below.refl _ _).alloc (Nat.le_refl _) _),by rw [hB]; exact well_zero 512 (by omega),Nat.le_refl _,NR.new w2,h.jp.bel.size,by omega,by omega,fun g=>by unfold In3 at g; omega⟩
theorem rises_small (A:Nat→Addr) (ad:Option Addr) (cap:Nat) (xs:List Act12) (w:World) (hE:HeldE w A) (hx:SActsIn w ad xs) (hl:xs.length≤80) :
  Calls Tryd.prog 3 #[.slice ad xs.length cap] w fun e w'=>e=.returned (.bool true)∧Below w.heap.size w w':=by
 have HE:=hid hE
 have HX:=hid hx
 clear hE hx
 have hmk:=mkSt
 go_enter Tryd.func3,Tryd.ntmps3
 go_wp2_with (go_at_call 8; refine (votes_any A _ HE.out).mono ?_; rintro e w1 ⟨rfl,hb1⟩; have HB1:=hid hb1; have HE1:=hid (HE.out.later hb1); clear hb1)
 refine (pnew_ok 512 _ (by omega)).mono ?_
 rintro e w2 ⟨rfl,hP2,hb2,hs2⟩
 have HP2:=hid hP2
 have HB2:=hid (HB1.out.trans (hb2.mono HB1.out.size))
 have HE2:=hid (HE.out.later HB2.out)
 have hpq:=HB1.out.size
 clear hP2 hb2 hs2
 obtain ⟨p,Hp⟩:∃ p,Hid (w1.heap.size+1=p):=⟨_,rfl⟩
 obtain ⟨q,Hq⟩:∃ q,Hid (w1.heap.size=q):=⟨_,rfl⟩
 have p0:w.heap.size≤p:=by rw [← Hp.out]; omega
 have q0:w.heap.size≤q:=by rw [← Hq.out]; omega
 rw [Hp.out,Hq.out] at HP2
 have hpp:=Hp.out
 go_wp2_with fail
 refine (snew_ok A 0 p q _ (-1) _ HP2.out HE2.out (by rw [zeroB_size]; omega) (by rw [zeroB_size]; omega) (by omega) (by omega) (by omega)).mono ?_
 rintro e w3 ⟨s,j,mb,rfl,hJ,hS,hb3,hj0,hjm,hms⟩
 have HS:=hid (sp_new HB2.out HP2.out p0 q0 hJ hS hb3 hj0 hjm hms (by omega) (by omega) (by rw [zeroB_size]; omega) (by rw [zeroB_size]; omega))
 clear hJ hS hb3 hj0 hjm hms hpp
 obtain ⟨nb,Hnb⟩:∃ n,Hid (w3.heap.size=n):=⟨_,rfl⟩
 have hnb:=Hnb.out
 have HI0:=hid (ri_start HS.out rfl)
 rw [Hnb.out] at HI0
 go_wp2_with fail
 go_loopw [6,8] (fun vs i wr=>∃ (k s j mb n:Nat) (R:Nat→Bool) (over:Bool) (B:ByteArray) (l:Int) (N:Nat→St),k≤xs.length∧vs=.pointer (some ⟨s,0,none⟩)∧i=.int .i64 (k:Int)∧RI w wr s j mb p q nb n R over B l k N∧∀ d,d<6→N d=(dealL B.data.toList d).2) (fun _ i _=>xs.length - (intOf i).toNat)
 case atStart=>exact ⟨0,s,j,mb,0,_,_,_,_,_,Nat.zero_le _,rfl,rfl,HI0.out,fun d hd=>by rw [deal_zero 512 d (by omega)]⟩
 case round =>
  clear HI0 HS
  obtain ⟨k,s,j,mb,n,R,over,B,l,N,hk,rfl,rfl,hI,hN⟩:=hrel
  have HI:=hid hI
  have HN:=hid hN
  clear hI hN
  by_cases hlt:k<xs.length
  ·obtain ⟨b,o,rfl,hy,hc9⟩:=HX.out k hlt
   obtain ⟨y0,y1,y2,y3,y4,y5,y6,y7,y8,y9,y10,y11⟩:=twelve (w:=wr) (fun j hj=>(HI.out.bel.cell (cell_lt (hy j hj |>.trans (List.getElem?_eq_getElem (by simpa [act12L] using hj))))).trans (hy j hj))
   generalize xs[k]'hlt=x at *
   obtain ⟨xk,xf,xt,xd,xkk,xa,xy,xph,xpr,xpa,xdl,xn⟩:=x
   simp only at y0 y1 y2 y3 y4 y5 y6 y7 y8 y9 y10 y11 hc9
   clear hy
   obtain ⟨ab,Hab⟩:∃ n,Hid (wr.heap.size=n):=⟨_,rfl⟩
   obtain ⟨W,HW⟩:∃ W,Hid (wr.alloc (.cells #[.string xk,.int .i64 xf,.int .i64 xt,.int .i64 xd,.int .i64 xkk,.int .i64 xa,.bool xy,.int .i64 xph,.int .i64 xpr,.int .i64 xpa,.int .i64 xdl,.int .i64 xn] 38)=W):=⟨_,rfl⟩
   have hW:=HW.out
   have hab:=Hab.out
   have HIW:=hid (HI.out.later (w':=W) (by rw [← HW.out]; exact (Below.refl _ _).alloc (Nat.le_refl _) _))
   have RW:Hid (W.heap[ab]? = some (.cells #[.string xk,.int .i64 xf,.int .i64 xt,.int .i64 xd,.int .i64 xkk,.int .i64 xa,.bool xy,.int .i64 xph,.int .i64 xpr,.int .i64 xpa,.int .i64 xdl,.int .i64 xn] 38 (0,0))):=by rw [← HW.out,← Hab.out]; exact heap_alloc_new wr _
   have HNR:Hid (∀ d,d<6→Rise (N d) (dealL B.data.toList d).2):=fun d hd=>by rw [HN.out d hd]; exact Rise.refl (HI.out.well.good d hd)
   have hk1000:k<1000:=by omega
   obtain ⟨a0,a1,a2,a3,a4,a5,a6,a7,a8,a9,a10,a11⟩:=twelveR RW.out
   go_upto_block 2 with fail
   clear y0 y1 y2 y3 y4 y5 y6 y7 y8 y9 y10 y11 hab
   go_cut [6] from 52 to 181 (fun s6 wx=>∃ (s' j' mb' n':Nat) (R':Nat→Bool) (over':Bool) (B':ByteArray) (l':Int),s6=.pointer (some ⟨s',0,none⟩)∧RI w wx s' j' mb' p q nb n' R' over' B' l' (k+1) N∧∀ d,d<6→Rise (N d) (dealL B'.data.toList d).2)
   case first =>
    clear hW HW HI hlt hk
    rcases k1:(xk.toList == [114,101,102,117,115,101]) with _|_
    rotate_left
    · -- refuse
     by_cases hdl:0≤xdl∧xdl<6
     ·obtain ⟨d,rfl⟩:∃ d:Nat,xdl=d:=⟨xdl.toNat,by omega⟩
      have hd:d<6:=by omega
      have hn6:n≤1000000:=by have:=HIW.out.hn; omega
      clear hdl
      go_wp2_with (go_at_call 11; (with_reducible refine (srefuse_ok d HIW.out.sp.jp.jr HIW.out.sp.sr hd hn6).mono ?_); rintro e v1 ⟨rfl,hr1,hk1,-⟩; have HI1:=hid (HIW.out.refuse hr1 hk1); clear hr1 hk1)
      go_meet
      exact ⟨s,j,mb,n+1,_,over,B,l,rfl,HI1.out,HNR.out⟩
     ·have HEW:=hid (HE.out.later HIW.out.bel)
      go_wp2_with (go_at_call 11; (with_reducible refine (srefuse_bad (A:=A) xdl HIW.out.sp.sr HEW.out hdl).mono ?_); rintro e v1 ⟨rfl,hb1⟩; have HI1:=hid ((HIW.out.later hb1).mono (Nat.le_succ k)); clear hb1)
      go_meet
      exact ⟨s,j,mb,n,R,over,B,l,rfl,HI1.out,HNR.out⟩
    rcases k2:(xk.toList == [99,117,116]) with _|_
    rotate_left
    · -- cut
     go_wp2_with (go_at_call 12; (with_reducible refine (scut_jp xn HIW.out.sp.jp HE.out hc9).mono ?_); rintro e v1 ⟨rfl,hj1,hk1⟩; have HI1:=hid (HIW.out.turn (HIW.out.sp.turn hj1 hk1) hk1 ((HIW.out.well.cut xn).mono (Nat.le_succ k)) (Nat.le_succ k)); clear hj1 hk1)
     go_meet
     exact ⟨s,j,mb,n,R,over,B,_,rfl,HI1.out,HNR.out⟩
    rcases k3:(xk.toList == [98,111,111,116]) with _|_
    rotate_left
    · -- boot
     go_wp2_with (first|(go_at_call 13; (with_reducible refine (jon_jp HIW.out.sp.jp).mono ?_); rintro e v1 ⟨rfl,hj1,hk1⟩; have HJ1:=hid hj1; have HI1:=hid (HIW.out.turn (HIW.out.sp.turn hj1 hk1) hk1 (HIW.out.well.on.mono (Nat.le_succ k)) (Nat.le_succ k)); clear hj1 hk1))
     refine (sboot_sp (id:=((0:Nat):Int)) HJ1.out HE.out (by decide) (by decide)).mono ?_
     rintro e v2 ⟨s',j',mb',rfl,hs2,hb2,h1,h2,h3⟩
     have HI2:=hid (HI1.out.boot hs2 hb2 h1 h2 h3)
     clear hs2 hb2 h1 h2 h3
     go_wp2_with fail
     go_meet
     exact ⟨s',j',mb',0,_,false,B,-1,rfl,HI2.out,HNR.out⟩
    · -- hear
     by_cases hf:frOk xf 0 xd xkk xa xph xpr xpa
     ·obtain ⟨f,rfl⟩:∃ f:Nat,xf=f:=⟨xf.toNat,by have:=hf.1; omega⟩
      obtain ⟨d,rfl⟩:∃ f:Nat,xd=f:=⟨xd.toNat,by have:=hf.2.2.1; omega⟩
      obtain ⟨kk,rfl⟩:∃ f:Nat,xkk=f:=⟨xkk.toNat,by have:=hf.2.2.2.1; omega⟩
      obtain ⟨a,rfl⟩:∃ f:Nat,xa=f:=⟨xa.toNat,by have:=hf.2.2.2.2.1; omega⟩
      obtain ⟨ph,rfl⟩:∃ f:Nat,xph=f:=⟨xph.toNat,by have:=hf.2.2.2.2.2.1; omega⟩
      obtain ⟨pr,rfl⟩:∃ f:Nat,xpr=f:=⟨xpr.toNat,by have:=hf.2.2.2.2.2.2.1; omega⟩
      obtain ⟨pa,rfl⟩:∃ f:Nat,xpa=f:=⟨xpa.toNat,by have:=hf.2.2.2.2.2.2.2; omega⟩
      have hd:d<6:=by have:=hf.2.2.1; omega
      obtain ⟨⟨⟨th,tp,ta⟩,gk,gy⟩,HG⟩:∃ g,Hid (hearL (dealL B.data.toList d).2 (R d) kk a ph=g):=⟨_,rfl⟩
      obtain ⟨⟨oc,oe,oo,ob,ol⟩,HO⟩:∃ o,Hid (pOut (dealL B.data.toList) over B l d th tp ta=o):=⟨_,rfl⟩
      have HRS:=hid (hear_rises HIW.out.sp.jp.s6 HIW.out.well hk1000 hd (by have:=hf.2.2.2.2.1; omega) (by have:=hf.2.2.2.2.2.1; omega) HG.out HO.out)
      have HNR2:Hid (∀ e,e<6→Rise (N e) (dealL ob.data.toList e).2):=fun e he=>by rw [HN.out e he]; exact HRS.out.2.2.1 e he
      have HF:=hid hf
      clear hf HNR HN
      go_wp2_with fail
      refine (shear_in A w _ s j mb p q n 0 f d kk a ph pr pa xy R (dealL B.data.toList) over B l ⟨⟨th,tp,ta⟩,gk,gy⟩ ⟨oc,oe,oo,ob,ol⟩ (HIW.out.sp.later ((Below.refl _ _).alloc (Nat.le_refl _) _)) HE.out (fun d _=>deal_lt _ d) HF.out HG.out HO.out).mono ?_
      rintro e v2 ⟨v,rfl,hv,hs2,hk2⟩
      simp only at hv hs2
      have he:oe=dealL ob.data.toList:=HRS.out.1
      rw [he] at hs2
      have HI2:=hid ((HIW.out.later ((Below.refl _ _).alloc (Nat.le_refl _) _)).turn hs2 hk2 HRS.out.2.1 (Nat.le_succ k))
      clear hs2 hk2 he
      unfold AnsV at hv
      simp only at hv
      cases oc with
      | succ c =>
       rw [if_neg (fun h=>by cases h.1)] at hv
       subst hv
       unfold ev
       go_wp2_with fail
       refine wp_loop_rounds 1 ?_
       rw [rounds_succ]
       go_wp2_with fail
       go_meet
       exact ⟨s,j,mb,n,R,oo,ob,ol,rfl,HI2.out,HNR2.out⟩
      | zero =>
       unfold ev
       by_cases hgk:gk=0
       ·rw [if_neg (fun h=>h.2 hgk)] at hv
        subst hv
        go_wp2_with fail
        refine wp_loop_rounds 1 ?_
        rw [rounds_succ]
        go_wp2_with fail
        go_meet
        exact ⟨s,j,mb,n,R,oo,ob,ol,rfl,HI2.out,HNR2.out⟩
       ·rw [if_pos ⟨rfl,hgk⟩] at hv
        obtain ⟨gb,cp,rfl,hr⟩:=hv
        have HR2:=hid hr
        have HT2:Hid ((dealL ob.data.toList d).2=⟨th,tp,ta⟩):=HRS.out.2.2.2 rfl
        unfold ansC at hr
        simp only at hr
        obtain ⟨t0,t1,t2,t3,t4,t5,t6,t7,t8⟩:=nine hr
        have hgb:=row_ltJ hr
        have hne:=st_neq (th:Int) (tp:Int) (ta:Int)
        clear hr HRS HG HO HF
        go_wp2_with fail
        refine wp_loop_rounds 2 ?_
        rw [rounds_succ]
        go_wp2_with (go_at_call 15; (with_reducible refine (sstate_is d th tp ta HI2.out.sp.jp.jr HI2.out.sp.sr hd HT2.out).mono ?_); rintro e v3 ⟨rfl,hb3⟩; have HI3:=hid (HI2.out.later hb3); have hr3:=(hb3.block _ hgb).trans HR2.out; unfold ansC at hr3; simp only at hr3; obtain ⟨t0,t1,t2,t3,t4,t5,t6,t7,t8⟩:=nine hr3; have hgb3:=row_ltJ hr3; clear hb3 hr3)
        go_region
        all_goals go_wp2_with fail
        all_goals rw [rounds_succ]
        all_goals go_wp2_with fail
        all_goals go_meet
        all_goals exact ⟨s,j,mb,n,R,oo,ob,ol,rfl,(HI3.out.later ((Below.refl _ _).alloc (Nat.le_refl _) _)).drew,HNR2.out⟩
     ·go_wp2_with (go_at_call 14; (with_reducible refine (shear_bad A _ xf 0 xd xkk xa xy xph xpr xpa _ (HE.out.later (HIW.out.later ((Below.refl _ _).alloc (Nat.le_refl _) _)).bel) hf).mono ?_); rintro e v2 ⟨rfl,hb2⟩; unfold ev; have HI2:=hid (((HIW.out.later ((Below.refl _ _).alloc (Nat.le_refl _) _)).later hb2).mono (Nat.le_succ k)); clear hb2)
      refine wp_loop_rounds 1 ?_
      rw [rounds_succ]
      go_wp2_with fail
      go_meet
      exact ⟨s,j,mb,n,R,over,B,l,rfl,HI2.out,HNR.out⟩
   obtain ⟨s',j',mb',n',R',over',B',l',rfl,hI2,hR2⟩:=hcut
   have HI2:=hid hI2
   have HRs:=hid hR2
   clear hI2 hR2 HIW RW HNR HI HN a0 a1 a2 a3 a4 a5 a6 a7 a8 a9 a10 a11 hW HW
   rename_i wc
   generalize wc=v0 at *
   go_wp2_with fail
   go_loopw [18] (fun i wq=>∃ e:Nat,e≤6∧i=.int .i64 (e:Int)∧RI w wq s' j' mb' p q nb n' R' over' B' l' (k+1) (mixN B'.data.toList N e)) (fun i _=>6 - (intOf i).toNat)
   case atStart=>exact ⟨0,by omega,rfl,by rw [mixN_zero]; exact HI2.out⟩
   case round =>
    clear HI2
    obtain ⟨e,he6,rfl,hI3⟩:=hrel
    have HI3:=hid hI3
    clear hI3
    by_cases he:e<6
    ·obtain ⟨⟨h1,h2,h3⟩,HD⟩:∃ x,Hid ((dealL B'.data.toList e).2=x):=⟨_,rfl⟩
     obtain ⟨⟨n1,n2,n3⟩,HNe⟩:∃ x,Hid (N e=x):=⟨_,rfl⟩
     obtain ⟨q2,q3,q1⟩:=HRs.out e he
     rw [HD.out,HNe.out] at q1 q2 q3
     simp only at q1 q2 q3
     have HM:=hid q1
     have g2:¬ (h2:Int)<(n2:Int):=by omega
     have g3:¬ (h3:Int)<(n3:Int):=by omega
     have d2:decide ((h2:Int)<(n2:Int))=false:=decide_eq_false g2
     have d3:decide ((h3:Int)<(n3:Int))=false:=decide_eq_false g3
     have g2n:¬ h2<n2:=by omega
     have g3n:¬ h3<n3:=by omega
     have d2n:decide (h2<n2)=false:=decide_eq_false g2n
     have d3n:decide (h3<n3)=false:=decide_eq_false g3n
     have hei:(e:Int)<6:=by omega
     clear q1 q2 q3
     go_wp2_with (go_at_call 15; (with_reducible refine (sstate_is e h1 h2 h3 HI3.out.sp.jp.jr HI3.out.sp.sr he HD.out).mono ?_); rintro ee v3 ⟨rfl,hb3⟩; have HI4:=hid (HI3.out.later hb3); clear hb3; obtain ⟨c0,c1,c2⟩:=HI4.out.nr.ent he; rw [mixN_here,HNe.out] at c0 c1 c2; simp only at c0 c1 c2; have hnbl:=HI4.out.nr.lt)
     go_quiet ((go_at_call 16; exact Calls.quiet_of_same (rmay_yes n1 h1 _ HM.out)))
     have HI5:=hid (HI4.out.later (below_drewN ((Below.refl _ _).alloc (Nat.le_refl _) (.cells #[.int .i64 (h1:Int),.int .i64 (h2:Int),.int .i64 (h3:Int)] 34)) nq))
     have RS5:Hid (((v3.alloc (.cells #[.int .i64 (h1:Int),.int .i64 (h2:Int),.int .i64 (h3:Int)] 34)).drewN nq).heap[v3.heap.size]? = some (.cells #[.int .i64 (h1:Int),.int .i64 (h2:Int),.int .i64 (h3:Int)] 34 (0,0))):=by unfold Hid; rw [heap_drewJ]; exact heap_alloc_new v3 _
     generalize (v3.alloc (.cells #[.int .i64 (h1:Int),.int .i64 (h2:Int),.int .i64 (h3:Int)] 34)).drewN nq=V5 at HI5 RS5 ⊢
     clear c0 c1 c2
     obtain ⟨c0,c1,c2⟩:=HI5.out.nr.ent he
     have f0:=HI5.out.nr.fz (e * 3)
     have f1:=HI5.out.nr.fz (e * 3+1)
     have f2:=HI5.out.nr.fz (e * 3+2)
     have t0:V5.cell? ⟨v3.heap.size,0,none⟩=some (.int .i64 (h1:Int)):=by rw [cell_of_row _ _ _ _ _ _ RS5.out]; rfl
     have t1:V5.cell? ⟨v3.heap.size,1,none⟩=some (.int .i64 (h2:Int)):=by rw [cell_of_row _ _ _ _ _ _ RS5.out]; rfl
     have t2:V5.cell? ⟨v3.heap.size,2,none⟩=some (.int .i64 (h3:Int)):=by rw [cell_of_row _ _ _ _ _ _ RS5.out]; rfl
     have HST:=hid (HI5.out.nr.set he ⟨h1,h2,h3⟩)
     have HMX:Hid (updN (mixN B'.data.toList N e) e ⟨h1,h2,h3⟩=mixN B'.data.toList N (e+1)):=by unfold Hid; rw [← HD.out]; exact mixN_step _ _ _
     rw [HMX.out] at HST
     go_wp2_with fail
     go_roundw
     case rel=>exact ⟨e+1,by omega,by go_num,HI5.out.list ((((Kept.refl _ _).set1 (e * 3) _).set1 (e * 3+1) _).set1 (e * 3+2) _) HST.out⟩
     case measure=>simp [intOf]; omega
    ·obtain rfl:e=6:=by omega
     go_wp2_with fail
     go_roundw
     case rel=>exact ⟨k+1,s',j',mb',n',R',over',B',l',_,by omega,rfl,by go_num,HI3.out,fun d hd=>mixN_all _ _ d hd⟩
     case measure=>simp [intOf]; omega
  ·obtain rfl:k=xs.length:=by omega
   have HBl:=hid HI.out.bel
   go_wp2_with fail
   go_ret
   exact ⟨rfl,HBl.out⟩
end Go.Proofs.YtkopfpaldmapdaaDoor
