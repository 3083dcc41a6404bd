/-
  On the way to WStepsProof, WCommitsProof, WAgreesProof, WEndsProof, WWaitsProof, JTampersProof, PAgreesProof, PAgainProof: VI YC.
-/
import Derived.Test.YtadhpkopkkjmfaaGreatDoorBz35
set_option maxHeartbeats 8000000
set_option maxRecDepth 100000
namespace Go.Proofs.YtadhpkopkkjmfaaGreatDoor
theorem put_wellB {B:ByteArray} {over:Bool} {l:Int} {m d:Nat} {s:St} {o:POut} (hB:216≤B.size) (h:Well B over l m) (hm:m<4000000000) (hd:d<6) (hs:s.good) (ho:pOut (dealL B.data.toList) over B l d s.ph s.pr s.at_=o) :
  o.e=dealL o.b.data.toList∧Well o.b o.over o.l (m+1)∧(∀ e,e≠d→dealL o.b.data.toList e=dealL B.data.toList e)∧((o.c=0∧(dealL o.b.data.toList d).2=s) ∨ (o.c=6∧dealL o.b.data.toList d=dealL B.data.toList d)):=by
 subst ho
 unfold pOut
 cases over with
 | true =>
  rw [if_pos rfl]
  exact ⟨rfl,h.mono (Nat.le_succ _),fun _ _=>rfl,.inr ⟨rfl,rfl⟩⟩
 | false =>
  rw [if_neg (by decide),if_pos ⟨by omega,good_fits hs⟩]
  simp only [Int.toNat_natCast]
  have hn:=h.num d hd
  have hp:=h.pow rfl
  rcases put_out (s:=s) hB hd (fits_of (good_fits hs)) (by omega) hp with ⟨c,ov,ee,hl,hs2,hot,hnn⟩|⟨c,ov,hl,hdd⟩
  ·refine ⟨ee,⟨fun e he=>?_,fun e he=>?_,fun _=>hl⟩,hot,.inl ⟨c,hs2⟩⟩
   ·by_cases g:e=d
    ·rw [g,hs2]; exact hs
    ·rw [hot e g]; exact h.good e he
   ·by_cases g:e=d
    ·rw [g]; exact Nat.le_trans hnn (Nat.succ_le_succ hn)
    ·rw [hot e g]; have:=h.num e he; omega
  ·refine ⟨?_,⟨fun e he=>by rw [hdd]; exact h.good e he,fun e he=>by rw [hdd]; have:=h.num e he; omega,fun g=>by rw [ov] at g; cases g⟩,fun e _=>by rw [hdd],.inr ⟨c,by rw [hdd]⟩⟩
   rw [hdd]
   revert c
   unfold putIn
   split
   ·intro c; cases c
   ·split
    ·intro c; cases c
    ·split
     ·intro c; cases c
     ·intro _; rfl
theorem wOut_l {B s:ByteArray} {l:Int} {a:Nat} (h0:-2≤l) (h1:l≤9223372036854775807):-2≤(wOut B s l a).l∧(wOut B s l a).l≤9223372036854775807:=⟨wL_ge _ _ _ _ h0,wL_le _ _ _ _ h1⟩
theorem fill3_l {B:ByteArray} {l:Int} {k n:Nat} {s:St} (h0:-2≤l) (h1:l≤9223372036854775807):-2≤(fill3 B l k n s).l∧(fill3 B l k n s).l≤9223372036854775807:=by
 have a1:-2≤(fill1 B l k).l∧(fill1 B l k).l≤9223372036854775807:=by
  unfold fill1
  split
  ·exact ⟨h0,h1⟩
  ·split
   ·exact ⟨h0,h1⟩
   ·exact wOut_l h0 h1
 have a2:-2≤(fill2 B l k n s).l∧(fill2 B l k n s).l≤9223372036854775807:=by
  unfold fill2
  split
  ·exact wOut_l a1.1 a1.2
  ·exact a1
 unfold fill3
 split
 ·exact wOut_l a2.1 a2.2
 ·exact a2
theorem pOut_more {B:ByteArray} {l:Int} {m d:Nat} {s:St} {o:POut} (hB:216≤B.size) (h:Well B false l m) (hm:m<4000000000) (hd:d<6) (hs:s.good) (h0:-2≤l) (h1:l≤9223372036854775807) (ho:pOut (dealL B.data.toList) false B l d s.ph s.pr s.at_=o) :
  o.b.size=B.size∧(-2≤o.l∧o.l≤9223372036854775807)∧((o.c=0∧o.over=false∧o.l≠-2) ∨ (o.c=6∧o.over=true∧o.l=-2)):=by
 subst ho
 unfold pOut
 rw [if_neg (by decide),if_pos ⟨by omega,good_fits hs⟩]
 simp only [Int.toNat_natCast]
 have hn:=h.num d hd
 refine ⟨putIn_size _,?_,?_⟩
 ·unfold putIn
  split
  ·exact ⟨h0,h1⟩
  ·split
   ·exact ⟨h0,h1⟩
   ·split
    ·exact fill3_l h0 h1
    ·exact fill3_l h0 h1
 ·rcases put_out (s:=s) hB hd (fits_of (good_fits hs)) (by omega) (h.pow rfl) with ⟨c,ov,-,hl,-⟩|⟨c,ov,hl,-⟩
  ·exact .inl ⟨c,ov,hl⟩
  ·exact .inr ⟨c,ov,hl⟩
structure HF (n:Nat) (N:PN) (f:F9) (m:Nat):Prop where
 ni:NI n (hearN N f) (m+1)
 c:(oHN N f).c=0 ∨ (oHN N f).c=6
 up:upN (hearN N f)=decide ((oHN N f).c=0)
 e:(oHN N f).e=dlN (hearN N f)
 other:∀ e,e≠f.d.toNat→dlN (hearN N f) e=dlN N e
 yes:(oHN N f).c=0→stN (hearN N f) f.d.toNat=(gHN N f).st
 no:(oHN N f).c=6→dlN (hearN N f) f.d.toNat=dlN N f.d.toNat
 ld:(oHN N f).c=0→(hearN N f).ld=N.ld
 good:(gHN N f).st.good
 may:mayN (stN N f.d.toNat).ph (gHN N f).st.ph
theorem hearN_hf {n m:Nat} {N:PN} {f:F9} (h:NI n N m) (hu:N.l≠-2) (hf:FI n f) (hm:m<4000000000):HF n N f m:=by
 have hov:=h.up hu
 have hd:f.d.toNat<6:=by have:=hf.ok.2.2.1; omega
 have ha:f.a.toNat≤1048576:=by have:=hf.ok.2.2.2.2.1; omega
 have hp:f.ph.toNat≤5:=by have:=hf.ok.2.2.2.2.2.1; omega
 have hg:=hear_good (stN N f.d.toNat) (N.R f.d.toNat) f.k.toNat f.a.toNat f.ph.toNat (h.gd _ hd) ha hp
 have hgg:(gHN N f).st.good:=hg.1
 have hw:Well N.B false N.l m:=⟨h.gd,h.nm,fun _=>hu⟩
 have hB:216≤N.B.size:=by have:=h.sz; omega
 obtain ⟨o,ho⟩:∃ o,oHN N f=o:=⟨_,rfl⟩
 have ho2:pOut (dealL N.B.data.toList) false N.B N.l f.d.toNat (gHN N f).st.ph (gHN N f).st.pr (gHN N f).st.at_=o:=by rw [← ho,← hov]; rfl
 obtain ⟨p1,p2,p3,p4⟩:=put_wellB hB hw hm hd hgg ho2
 obtain ⟨q1,q2,q3⟩:=pOut_more hB hw hm hd hgg h.l0 h.l1 ho2
 rcases q3 with ⟨c,ov,hl⟩|⟨c,ov,hl⟩
 ·have e:hearN N f={ N with B:=o.b,l:=o.l,over:=o.over }:=by unfold hearN; rw [ho,if_neg (by omega)]
  rcases p4 with ⟨-,p4⟩|⟨c2,-⟩
  ·rw [ov] at p2
   refine ⟨?_,.inl (by rw [ho]; exact c),?_,?_,?_,?_,?_,?_,hgg,hg.2.2.2⟩
   ·rw [e]
    refine ⟨p2.good,p2.num,q1.trans h.sz,fun _=>ov,q2.1,q2.2,fun d x hx=>?_⟩
    have:=h.ld d x hx
    exact ⟨hl,this.2⟩
   ·rw [e,ho,c]; unfold upN; simpa using hl
   ·rw [e,ho]; exact p1
   ·rw [e]; exact p3
   ·intro _; rw [e]; exact p4
   ·intro g; rw [ho,c] at g; cases g
   ·intro _; rw [e]
  ·rw [c] at c2; cases c2
 ·have e:hearN N f=fallN { N with B:=o.b,over:=o.over }:=by unfold hearN; rw [ho,if_pos c]
  rcases p4 with ⟨c2,-⟩|⟨-,p4⟩
  ·rw [c] at c2; cases c2
  ·refine ⟨?_,.inr (by rw [ho]; exact c),?_,?_,?_,?_,?_,?_,hgg,hg.2.2.2⟩
   ·rw [e]
    exact ⟨p2.good,p2.num,q1.trans h.sz,fun g=>(g rfl).elim,by show -2≤(-2:Int); omega,by show (-2:Int)≤_; omega,fun d x hx=>by cases hx⟩
   ·rw [e,ho,c]; rfl
   ·rw [e,ho]; exact p1
   ·rw [e]; exact p3
   ·intro g; rw [ho,c] at g; cases g
   ·intro _; rw [e]; exact p4
   ·intro g; rw [ho,c] at g; cases g
end Go.Proofs.YtadhpkopkkjmfaaGreatDoor
namespace Go.Proofs.YtadhpkopkkjmfaaGreatDoor
open Go.RowKit
def stD (V:PX) (d:Nat):Nat→St:=fun i=>stN (V.nd i) d
structure GX (zs:List Int) (V:PX) (d:Nat) (g:Gh):Prop where
 co:Co zs (stD V d) g
 fr:∀ f,f∈V.fly→f.d=(d:Int)→Fr zs (stD V d) g f
 le:∀ i x,i<zs.length→(V.nd i).ld d=some x→Le zs (stD V d) g i x.1 x.2
structure EX (zs:List Int) (V:PX):Prop where
 at_:∀ e,e∈V.evs→∃ i d p:Nat,e=⟨i,d,p⟩∧i<zs.length∧d<6∧(p=2 ∨ p=3)∧(stN (V.nd i) d).ph=p
 once:V.evs.Pairwise fun a b=>¬ (a.s=b.s∧a.d=b.d)
structure AX (zs:List Int) (V:PX):Prop where
 gx:∀ d,d<6→∃ g,GX zs V d g
 ex:EX zs V
def Mo (zs:List Int) (V V':PX):Prop:=∀ i d,i<zs.length→d<6→mayN (stN (V.nd i) d).ph (stN (V'.nd i) d).ph
theorem mayN_trans {a b c:Nat} (h:mayN a b) (g:mayN b c):mayN a c:=by
 unfold mayN at *
 omega
section
variable {zs:List Int} {V V':PX} {m:Nat} {g g':Gh}
theorem Mo.trans {V'':PX} (h:Mo zs V V') (k:Mo zs V' V''):Mo zs V V'':=fun i d hi hd=>mayN_trans (h i d hi hd) (k i d hi hd)
theorem Mo.same (hX:XI zs V m) (hs:∀ i d,stN (V'.nd i) d=stN (V.nd i) d):Mo zs V V':=fun i d hi hd=>by
 rw [hs i d]
 have h5:=((hX.nd i hi).gd d hd).1
 exact ⟨h5,h5,.inl rfl⟩
theorem GX.quiet {d:Nat} (h:GX zs V d g) (hs:∀ i,stN (V'.nd i) d=stN (V.nd i) d) (hl:∀ i x,i<zs.length→(V'.nd i).ld d=some x→(V.nd i).ld d=some x) (hf:∀ f,f∈V'.fly→f∈V.fly):GX zs V' d g:=by
 have e:stD V' d=stD V d:=funext hs
 refine ⟨by rw [e]; exact h.co,fun f x y=>by rw [e]; exact h.fr f (hf f x) y,fun i x hi hx=>by rw [e]; exact h.le i x hi (hl i x hi hx)⟩
theorem EX.same (h:EX zs V) (hs:∀ i d,stN (V'.nd i) d=stN (V.nd i) d) (he:V'.evs=V.evs):EX zs V':=by
 refine ⟨fun e hm=>?_,by rw [he]; exact h.once⟩
 rw [he] at hm
 obtain ⟨i,d,p,h1,h2,h3,h4,h5⟩:=h.at_ e hm
 exact ⟨i,d,p,h1,h2,h3,h4,by rw [hs]; exact h5⟩
theorem AX.quiet (h:AX zs V) (hs:∀ i d,stN (V'.nd i) d=stN (V.nd i) d) (hl:∀ i d x,i<zs.length→(V'.nd i).ld d=some x→(V.nd i).ld d=some x) (hf:∀ f,f∈V'.fly→f∈V.fly) (he:V'.evs=V.evs):AX zs V' :=
 ⟨fun d hd=>by obtain ⟨g,hg⟩:=h.gx d hd; exact ⟨g,hg.quiet (fun i=>hs i d) (fun i x hi hx=>hl i d x hi hx) hf⟩,h.ex.same hs he⟩
theorem GX.send {d:Nat} {L:List F9} (h:GX zs V d g) (hL:∀ f,f∈L→f.d=(d:Int)→Fr zs (stD V d) g f):GX zs (sendX V L) d g:=by
 refine ⟨h.co,fun f hf hd=>?_,h.le⟩
 rcases List.mem_append.1 hf with x|x
 ·exact h.fr f x hd
 ·exact hL f x hd
theorem nd_at (V:PX) (i:Nat) (N:PN):(setNd V i N).nd i=N:=if_pos rfl
theorem nd_ne (V:PX) (i:Nat) (N:PN) {k:Nat} (h:k≠i):(setNd V i N).nd k=V.nd k:=if_neg h
theorem ld_at (N:PN) (d:Nat) (x:Int×PL):(setLd N d x).ld d=some x:=if_pos rfl
theorem ld_ne (N:PN) (d:Nat) (x:Int×PL) {e:Nat} (h:e≠d):(setLd N d x).ld e=N.ld e:=if_neg h
theorem hearX_st0 {n:Nat} {i:Nat} {f:F9} (hh:HF n (V.nd i) f m) (hc:(oHN (V.nd i) f).c=6):∀ k d,stN ((hearX V i f).nd k) d=stN (V.nd k) d:=by
 intro k d
 show stN ((setNd V i (hearN (V.nd i) f)).nd k) d=_
 by_cases e:k=i
 ·subst e
  rw [nd_at]
  unfold stN
  by_cases e2:d=f.d.toNat
  ·rw [e2,hh.no hc]
  ·rw [hh.other d e2]
 ·rw [nd_ne _ _ _ e]
theorem hearX_st {n:Nat} {i:Nat} {f:F9} (hh:HF n (V.nd i) f m) (hc:(oHN (V.nd i) f).c=0):stD (hearX V i f) f.d.toNat=upd (stD V f.d.toNat) i (gHN (V.nd i) f).st:=by
 funext k
 show stN ((setNd V i (hearN (V.nd i) f)).nd k) f.d.toNat=_
 unfold upd
 by_cases e:k=i
 ·subst e
  rw [nd_at,if_pos rfl,hh.yes hc]
 ·rw [nd_ne _ _ _ e,if_neg e]
  rfl
theorem hearX_ne {n:Nat} {i:Nat} {f:F9} (hh:HF n (V.nd i) f m) {d:Nat} (hd:d≠f.d.toNat):∀ k,stN ((hearX V i f).nd k) d=stN (V.nd k) d:=by
 intro k
 show stN ((setNd V i (hearN (V.nd i) f)).nd k) d=_
 by_cases e:k=i
 ·subst e
  rw [nd_at]
  unfold stN
  rw [hh.other d hd]
 ·rw [nd_ne _ _ _ e]
theorem hearX_ld {n:Nat} {i:Nat} {f:F9} (hh:HF n (V.nd i) f m):∀ k d x,((hearX V i f).nd k).ld d=some x→(V.nd k).ld d=some x:=by
 intro k d x hx
 have hx2:((setNd V i (hearN (V.nd i) f)).nd k).ld d=some x:=hx
 by_cases e:k=i
 ·subst e
  rw [nd_at] at hx2
  rcases hh.c with hc|hc
  ·rw [hh.ld hc] at hx2; exact hx2
  ·unfold hearN at hx2
   rw [if_pos hc] at hx2
   cases hx2
 ·rw [nd_ne _ _ _ e] at hx2; exact hx2
theorem hear_gx {i d:Nat} {f:F9} (h:GX zs V d g) (hN:NI zs.length (V.nd i) m) (hu:(V.nd i).l≠-2) (hF:FI zs.length f) (hm:m<4000000000) (hi:i<zs.length) (hff:∀ a,a∈V.fly→FI zs.length a) (hfr:f.d=(d:Int)→Fr zs (stD V d) g f) :
  ∃ g',GX zs (hearX V i f) d g'∧Gr zs (stD V d) g (stD (hearX V i f) d) g'∧g'.val=g.val∧∀ a,a∈ansN i (V.nd i) f→a.d=(d:Int)→Fr zs (stD (hearX V i f) d) g' a:=by
 have hh:=hearN_hf hN hu hF hm
 have hd6:0≤f.d∧f.d≤5:=hF.ok.2.2.1
 have hp5:=hF.ok.2.2.2.2.2.1
 rcases hh.c with hc|hc
 ·by_cases e:d=f.d.toNat
  ·have ed:f.d=(d:Int):=by omega
   have hgood:(stD V d i).good:=by show (dlN (V.nd i) d).2.good; rw [e]; exact hN.gd _ (by omega)
   obtain ⟨g',k1,k2,k3,k4⟩:=hear_co h.co hi hgood ((V.nd i).R d) f (hfr ed) (by omega)
   have est:(hearL (stD V d i) ((V.nd i).R d) f.k.toNat f.a.toNat f.ph.toNat)=gHN (V.nd i) f:=by unfold gHN; rw [← e]; rfl
   have esd:=hearX_st (i:=i) hh hc
   rw [← e] at esd
   rw [est,← esd] at k1 k2 k4
   refine ⟨g',⟨k1,fun a ha hda=>?_,fun j x hj hx=>?_⟩,k2,k3,fun a ha _=>?_⟩
   ·have ha2:a∈V.fly:=ha
    have h0:=(hff a ha2).f0
    have h1:=(hff a ha2).f1
    exact (h.fr a ha2 hda).grow (by omega) k2
   ·have hx2:=hearX_ld hh j d x hx
    exact (h.le j x hj hx2).grow k2 (fun e1 e2=>by rw [k3]; exact (h.le j x hj hx2).tv e1 e2)
   ·unfold ansN at ha
    split at ha
    ·rename_i hcc
     rw [List.mem_singleton] at ha
     subst ha
     exact k4 hcc.2
    ·cases ha
  ·have hs:=hearX_ne (i:=i) hh e
   have es:stD (hearX V i f) d=stD V d:=funext hs
   refine ⟨g,h.quiet hs (fun j x _ hx=>hearX_ld hh j d x hx) (fun _ x=>x),by rw [es]; exact Gr.refl _ _ _,rfl,fun a ha hda=>?_⟩
   unfold ansN at ha
   split at ha
   ·rw [List.mem_singleton] at ha
    subst ha
    have:f.d=(d:Int):=hda
    omega
   ·cases ha
 ·have hs:=hearX_st0 (i:=i) hh hc
  have es:stD (hearX V i f) d=stD V d:=funext fun k=>hs k d
  refine ⟨g,h.quiet (fun k=>hs k d) (fun j x _ hx=>hearX_ld hh j d x hx) (fun _ x=>x),by rw [es]; exact Gr.refl _ _ _,rfl,fun a ha _=>?_⟩
  unfold ansN at ha
  rw [if_neg (fun x=>by rw [hc] at x; cases x.1)] at ha
  cases ha
theorem hear_ex {i:Nat} {f:F9} (h:EX zs V) (hN:NI zs.length (V.nd i) m) (hu:(V.nd i).l≠-2) (hF:FI zs.length f) (hm:m<4000000000) (hi:i<zs.length) (hX:XI zs V m) :
  EX zs (hearX V i f)∧Mo zs V (hearX V i f):=by
 have hh:=hearN_hf hN hu hF hm
 have hd6:0≤f.d∧f.d≤5:=hF.ok.2.2.1
 rcases hh.c with hc|hc
 ·have hmay:=hh.may
  have hmo:Mo zs V (hearX V i f):=by
   intro k d hk hd
   by_cases e:d=f.d.toNat
   ·have es:stN ((hearX V i f).nd k) d=upd (stD V f.d.toNat) i (gHN (V.nd i) f).st k:=by
     rw [e]; exact congrFun (hearX_st (i:=i) hh hc) k
    rw [es]
    unfold upd
    split
    ·rename_i e2; rw [e2,e]; exact hmay
    ·have h5:=((hX.nd k hk).gd d hd).1
     rw [← e]
     exact ⟨h5,h5,.inl rfl⟩
   ·rw [hearX_ne hh e k]
    have h5:=((hX.nd k hk).gd d hd).1
    exact ⟨h5,h5,.inl rfl⟩
  refine ⟨?_,hmo⟩
  have hold:∀ e,e∈V.evs→∃ k d p:Nat,e=⟨k,d,p⟩∧k<zs.length∧d<6∧(p=2 ∨ p=3)∧(stN ((hearX V i f).nd k) d).ph=p:=by
   intro e he
   obtain ⟨k,d,p,h1,h2,h3,h4,h5⟩:=h.at_ e he
   refine ⟨k,d,p,h1,h2,h3,h4,?_⟩
   have:=hmo k d h2 h3
   unfold mayN at this
   omega
  have hnow:(hearX V i f).evs=noteE V.evs i f.d.toNat (stN (V.nd i) f.d.toNat).ph (stN (hearN (V.nd i) f) f.d.toNat).ph:=rfl
  have hst:stN ((hearX V i f).nd i) f.d.toNat=stN (hearN (V.nd i) f) f.d.toNat:=by
   show stN ((setNd V i (hearN (V.nd i) f)).nd i) f.d.toNat=_
   rw [nd_at]
  unfold noteE at hnow
  split at hnow
  ·rename_i hcnd
   obtain ⟨n1,n2,-⟩:=hcnd
   have hfin:=of_decide_eq_true n2
   refine ⟨fun e he=>?_,?_⟩
   ·rw [hnow,List.mem_append] at he
    rcases he with he|he
    ·exact hold e he
    ·rw [List.mem_singleton] at he
     exact ⟨i,f.d.toNat,_,he,hi,by omega,hfin,by rw [hst]⟩
   ·rw [hnow,List.pairwise_append]
    refine ⟨h.once,List.pairwise_singleton _ _,fun a ha b hb=>?_⟩
    rw [List.mem_singleton] at hb
    subst hb
    rintro ⟨x1,x2⟩
    obtain ⟨k,d,p,h1,h2,h3,h4,h5⟩:=h.at_ a ha
    subst h1
    simp only at x1 x2
    have e1:k=i:=by omega
    have e2:d=f.d.toNat:=by omega
    subst e1
    subst e2
    have hmy:=hmo k f.d.toNat h2 h3
    rw [hst] at hmy
    unfold mayN at hmy
    omega
  ·exact ⟨fun e he=>hold e (by rw [hnow] at he; exact he),by rw [hnow]; exact h.once⟩
 ·have hs:=hearX_st0 (i:=i) hh hc
  refine ⟨h.same hs ?_,Mo.same hX hs⟩
  show noteE V.evs i f.d.toNat (stN (V.nd i) f.d.toNat).ph (stN (hearN (V.nd i) f) f.d.toNat).ph=V.evs
  have e:stN (hearN (V.nd i) f) f.d.toNat=stN (V.nd i) f.d.toNat:=by
   unfold stN; rw [hh.no hc]
  unfold noteE
  rw [if_neg (fun x=>x.1 (by rw [e]))]
theorem AX.hear {i:Nat} {f:F9} (h:AX zs V) (hX:XI zs V m) (hu:(V.nd i).l≠-2) (hF:FI zs.length f) (hm:m<4000000000) (hi:i<zs.length) (hfr:∀ d g,d<6→GX zs V d g→f.d=(d:Int)→Fr zs (stD V d) g f) :
  (∀ d,d<6→∃ g',GX zs (hearX V i f) d g'∧∀ a,a∈ansN i (V.nd i) f→a.d=(d:Int)→Fr zs (stD (hearX V i f) d) g' a)∧EX zs (hearX V i f)∧Mo zs V (hearX V i f):=by
 refine ⟨fun d hd=>?_,hear_ex h.ex (hX.nd i hi) hu hF hm hi hX⟩
 obtain ⟨g,hg⟩:=h.gx d hd
 obtain ⟨g',k1,-,-,k4⟩:=hear_gx hg (hX.nd i hi) hu hF hm hi hX.fr (hfr d g hd hg)
 exact ⟨g',k1,k4⟩
theorem lead_gx {i d:Nat} {x:Int×PL} {f:F9} (h:GX zs V d g) (he:errW zs=0) (hx:(V.nd i).ld d=some x) (hw:PW zs.length x.2) (hi:i<zs.length) (hff:∀ a,a∈V.fly→FI zs.length a) (hfr:Fr zs (stD V d) g f) :
  ∃ g',GX zs (setNd V i (setLd (V.nd i) d (x.1,(phear zs i d x.1 x.2 f).1))) d g'∧∀ o,o∈outL i d x.1 zs.length (phear zs i d x.1 x.2 f).2→Fr zs (stD (setNd V i (setLd (V.nd i) d (x.1,(phear zs i d x.1 x.2 f).1))) d) g' o:=by
 have hl:=h.le i x hi hx
 obtain ⟨g',k1,k2,k3,k4,k5⟩:=lead_co (deal:=(d:Int)) h.co he hl hw f hfr
 have es:stD (setNd V i (setLd (V.nd i) d (x.1,(phear zs i d x.1 x.2 f).1))) d=stD V d:=by
  funext k
  show stN ((setNd V i _).nd k) d=stN (V.nd k) d
  by_cases e:k=i
  ·subst e; rw [nd_at]; rfl
  ·rw [nd_ne _ _ _ e]
 refine ⟨g',⟨by rw [es]; exact k1,fun a ha hda=>?_,fun j y hj hy=>?_⟩,by rw [es]; exact k5⟩
 ·rw [es]
  have ha2:a∈V.fly:=ha
  have h0:=(hff a ha2).f0
  have h1:=(hff a ha2).f1
  exact (h.fr a ha2 hda).grow (by omega) k2
 ·rw [es]
  by_cases e:j=i
  ·subst e
   rw [nd_at,ld_at] at hy
   cases hy
   exact k4
  ·rw [nd_ne _ _ _ e] at hy
   have hly:=h.le j y hj hy
   refine hly.grow k2 fun e1 e2=>?_
   have hv:=hly.tv e1 e2
   by_cases ec:g'.val y.1.toNat=g.val y.1.toNat
   ·rw [ec]; exact hv
   ·obtain ⟨c1,-⟩:=k3 _ ec
    have h1:=(hly.ow e2).1
    have h2:=(hl.ow (by omega)).1
    rw [c1,h2] at h1
    exact absurd h1.symm e
theorem setLd_st (V:PX) (i d:Nat) (x:Int×PL):∀ k e,stN ((setNd V i (setLd (V.nd i) d x)).nd k) e=stN (V.nd k) e:=by
 intro k e
 by_cases c:k=i
 ·subst c; rw [nd_at]; rfl
 ·rw [nd_ne _ _ _ c]
theorem GX.other {i d e:Nat} {x:Int×PL} (h:GX zs V e g) (hne:e≠d):GX zs (setNd V i (setLd (V.nd i) d x)) e g:=by
 refine h.quiet (fun k=>setLd_st V i d x k e) (fun k y _ hy=>?_) (fun _ y=>y)
 by_cases c:k=i
 ·subst c; rw [nd_at,ld_ne _ _ _ hne] at hy; exact hy
 ·rw [nd_ne _ _ _ c] at hy; exact hy
theorem GX.newLead {i d:Nat} {a:Int} (h:GX zs V d g) (hl:Le zs (stD V d) g i a P0):GX zs (setNd V i (setLd (V.nd i) d (a,P0))) d g:=by
 have es:stD (setNd V i (setLd (V.nd i) d (a,P0))) d=stD V d:=funext fun k=>setLd_st V i d _ k d
 refine ⟨by rw [es]; exact h.co,fun f hf hd=>by rw [es]; exact h.fr f hf hd,fun k y hk hy=>?_⟩
 rw [es]
 by_cases c:k=i
 ·subst c; rw [nd_at,ld_at] at hy; cases hy; exact hl
 ·rw [nd_ne _ _ _ c] at hy; exact h.le k y hk hy
theorem le_new0 (s:Nat→St) (g:Gh) (i:Nat):Le zs s g i 0 P0 :=
 ⟨Int.le_refl _,fun _ _ k _ hb=>(by have hb2:bit 0 k=true:=hb; rw [bit_zero] at hb2; cases hb2),fun _ e=>(by omega),fun _ e=>(by omega),fun _ e=>(by omega),fun e=>(by omega),fun e=>(by cases e),fun e=>(by cases e)⟩
theorem P0_told (i:Nat) (t:S3) (h:P0.told[i]? = some t):t.p=0:=by
 have hm:=List.mem_iff_getElem?.2 ⟨i,h⟩
 simp [P0] at hm
 rw [hm]
theorem le_new1 {s:Nat→St} {g:Gh} {i:Nat} {a:Int} (h0:0<a) (hv:g.val a.toNat=0) (ho:a.toNat % zs.length=i) (hp:a.toNat≤(s i).pr):Le zs s g i a P0 :=
 ⟨(by omega),fun _ e=>(by omega),fun _ _=>hv,fun _ _ k _ hb=>(by have hb2:bit 0 k=true:=hb; rw [bit_zero] at hb2; cases hb2),fun _ _ k t ht=>.inl (P0_told k t ht),fun _=>⟨ho,hp⟩,fun e=>(by cases e),fun e=>(by cases e)⟩
end
end Go.Proofs.YtadhpkopkkjmfaaGreatDoor
