/-
  On the way to SAnewProof: YM YN YOR.
-/
import Derived.Test.YtaehdgemkafinaaGreatDoorBv38
set_option maxHeartbeats 8000000
set_option maxRecDepth 100000
namespace Go.Proofs.YtaehdgemkafinaaGreatDoor
open Go.RowKit
def cnt (st:Nat→St):Nat→Nat
 | 0=>0
 | k+1=>cnt st k+if finB (st k).ph=true then 1 else 0
theorem cnt_le (st:Nat→St):∀ k,cnt st k≤k
 | 0=>Nat.le_refl _
 | k+1=>by have:=cnt_le st k; unfold cnt; split <;> omega
theorem cnt_same {st st':Nat→St}:∀ {k:Nat},(∀ i,i<k→(st' i).ph=(st i).ph)→cnt st' k=cnt st k
 | 0,_=>rfl
 | k+1,h=>by unfold cnt; rw [cnt_same fun i hi=>h i (by omega),h k (by omega)]
theorem cnt_upd (st:Nat→St) (i:Nat) (t:St):∀ k,i<k→cnt (upd st i t) k+(if finB (st i).ph=true then 1 else 0)=cnt st k+if finB t.ph=true then 1 else 0
 | 0,h=>absurd h (Nat.not_lt_zero _)
 | k+1,h=>by
  unfold cnt
  by_cases e:i=k
  ·subst e
   rw [upd_at,cnt_same (st:=st) fun j hj=>by rw [upd_ne _ _ _ (by omega)]]
   omega
  ·have:=cnt_upd st i t k (by omega)
   rw [upd_ne _ _ _ (by omega:k≠i)]
   omega
structure CW (zs:List Int) (d s p:Nat) (rf:Nat→Bool) (V:PX) (m:Nat) (st:Nat→St) (P:PL) (fly:List F9):Prop where
 xi:XI zs V m
 l:∀ i,i<zs.length→(V.nd i).l=-1
 r:∀ i,i<zs.length→(V.nd i).R d=rf i
 ec:V.evs.length=cnt st zs.length
 ev:∀ e,e∈V.evs→e.d=(d:Int)∧e.p=(p:Int)
 st:∀ i,i<zs.length→stN (V.nd i) d=st i
 ld:(V.nd s).ld d=some (0,P)
 br:∀ a b,V.br a b=false
 fly:V.fly=fly
section
variable {zs:List Int} {d s p m:Nat} {rf:Nat→Bool} {V:PX} {st:Nat→St} {P:PL} {rest:List F9} {f:F9}
theorem CW.reach (h:CW zs d s p rf V m st P (f :: rest)) (hi:f.t.toNat<zs.length):reachB V f=true:=by
 unfold reachB brX upN
 rw [h.l _ hi,h.br]
 simp
theorem CW.take (h:CW zs d s p rf V m st P (f :: rest)):(takeX V 0).fly=rest:=by
 show V.fly.eraseIdx 0=rest
 rw [h.fly]
 rfl
theorem CW.site (h:CW zs d s p rf V m st P (f :: rest)) (hm:m<1000000) (hd:f.d=(d:Int)) {i:Nat} (ht:f.t=(i:Int)) (hi:i<zs.length) (hk:isAns f.k=false)
  (hfin:finB (hearL (st i) (rf i) f.k.toNat f.a.toNat f.ph.toNat).st.ph=true→(hearL (st i) (rf i) f.k.toNat f.a.toNat f.ph.toNat).st.ph=p) :
  CW zs d s p rf (deliverX zs V 0 f) (m+2) (upd st i (hearL (st i) (rf i) f.k.toNat f.a.toNat f.ph.toNat).st) P (rest ++ (if (hearL (st i) (rf i) f.k.toNat f.a.toNat f.ph.toNat).k≠0 then [ansF i f (hearL (st i) (rf i) f.k.toNat f.a.toNat f.ph.toNat)] else [])):=by
 have hti:f.t.toNat=i:=by rw [ht]; exact Int.toNat_natCast i
 have hdi:f.d.toNat=d:=by rw [hd]; exact Int.toNat_natCast d
 have hmem:f∈V.fly:=by rw [h.fly]; exact List.mem_cons_self
 have hF:=h.xi.fr f hmem
 have hX1:XI zs (takeX V 0) m:=h.xi.take
 have hu:((takeX V 0).nd i).l≠-2:=by show (V.nd i).l≠-2; rw [h.l i hi]; decide
 have hh:=hearN_hf (hX1.nd i hi) hu hF (by omega)
 have hsti:stN ((takeX V 0).nd i) f.d.toNat=st i:=by rw [hdi]; exact h.st i hi
 have hg:gHN ((takeX V 0).nd i) f=hearL (st i) (rf i) f.k.toNat f.a.toNat f.ph.toNat:=by
  unfold gHN
  rw [hsti,hdi,show ((takeX V 0).nd i).R d=rf i from h.r i hi]
 have hNI:=hX1.nd i hi
 have hfree:=put_free (B:=((takeX V 0).nd i).B) (d:=d) (s:=(hearL (st i) (rf i) f.k.toNat f.a.toNat f.ph.toNat).st) (by have:=hNI.sz; omega) (by have:=hF.ok.2.2.1; omega) (by have:=hNI.nm d (by have:=hF.ok.2.2.1; omega); have h2:(dealL ((takeX V 0).nd i).B.data.toList d).1≤m:=this; omega)
 have hov:((takeX V 0).nd i).over=false:=hNI.up hu
 have hl1:((takeX V 0).nd i).l=-1:=h.l i hi
 have hgood:=hh.good
 rw [hg] at hgood
 have hput:oHN ((takeX V 0).nd i) f=putIn (dealL ((takeX V 0).nd i).B.data.toList) ((takeX V 0).nd i).B (-1) d (hearL (st i) (rf i) f.k.toNat f.a.toNat f.ph.toNat).st:=by
  unfold oHN
  rw [hg,hov,hl1,hdi]
  unfold pOut
  rw [if_neg (by decide),if_pos ⟨by have:=hF.ok.2.2.1; omega,good_fits hgood⟩]
  simp only [Int.toNat_natCast]
  rfl
 have hc:(oHN ((takeX V 0).nd i) f).c=0:=by rw [hput]; exact hfree.1
 have hlo:(oHN ((takeX V 0).nd i) f).l=-1:=by rw [hput]; exact hfree.2
 have hN:hearN ((takeX V 0).nd i) f={ (takeX V 0).nd i with B:=(oHN ((takeX V 0).nd i) f).b,l:=(oHN ((takeX V 0).nd i) f).l,over:=(oHN ((takeX V 0).nd i) f).over }:=by
  unfold hearN
  rw [if_neg (by omega)]
 have hans:ansN i ((takeX V 0).nd i) f=if (hearL (st i) (rf i) f.k.toNat f.a.toNat f.ph.toNat).k≠0 then [ansF i f (hearL (st i) (rf i) f.k.toNat f.a.toNat f.ph.toNat)] else []:=by
  unfold ansN
  rw [hg]
  by_cases hk0:(hearL (st i) (rf i) f.k.toNat f.a.toNat f.ph.toNat).k≠0
  ·rw [if_pos ⟨hc,hk0⟩,if_pos hk0]
   rfl
  ·rw [if_neg (fun x=>hk0 x.2),if_neg hk0]
 have hdel:deliverX zs V 0 f=sendX (hearX (takeX V 0) i f) (ansN i ((takeX V 0).nd i) f):=by
  unfold deliverX arriveX arriveO
  rw [if_pos (h.reach (by omega)),if_neg (by rw [hk]; decide),if_neg (by rw [hk]; decide),hti]
 have hsd:∀ k,k<zs.length→stN ((hearX (takeX V 0) i f).nd k) d=upd st i (hearL (st i) (rf i) f.k.toNat f.a.toNat f.ph.toNat).st k:=by
  intro k hk
  have:=congrFun (hearX_st (V:=takeX V 0) (i:=i) hh hc) k
  rw [hdi] at this
  have h2:stN ((hearX (takeX V 0) i f).nd k) d=upd (stD (takeX V 0) d) i (gHN ((takeX V 0).nd i) f).st k:=this
  rw [h2,hg]
  unfold upd
  split
  ·rfl
  ·exact h.st k hk
 have hXh:=hX1.hear hu hF (by omega) hi
 have hfi:∀ x,x∈ansN i ((takeX V 0).nd i) f→FI zs.length x:=ansN_fi (hX1.nd i hi) hu hF (by omega) (by rw [ht])
 have hXs:=XI.send hXh hfi (by rw [hans]; split <;> simp)
 rw [hdel,← hans]
 have hmay:=hh.may
 rw [hsti,hg] at hmay
 have hev:(hearX (takeX V 0) i f).evs=noteE V.evs i d (st i).ph (hearL (st i) (rf i) f.k.toNat f.a.toNat f.ph.toNat).st.ph:=by
  show noteE V.evs i f.d.toNat (stN ((takeX V 0).nd i) f.d.toNat).ph (stN (hearN ((takeX V 0).nd i) f) f.d.toNat).ph=_
  rw [hsti,hh.yes hc,hg,hdi]
 have hcu:=cnt_upd st i (hearL (st i) (rf i) f.k.toNat f.a.toNat f.ph.toNat).st zs.length hi
 have hcl:=cnt_le st zs.length
 have n7:=(errW_zero h.xi.he).2.1
 have hWl:∀ k,k<zs.length→((hearX (takeX V 0) i f).nd k).l=-1:=by
  intro k hk
  show ((setNd (takeX V 0) i (hearN ((takeX V 0).nd i) f)).nd k).l=-1
  by_cases e:k=i
  ·subst e; rw [nd_at,hN]; exact hlo
  ·rw [nd_ne _ _ _ e]; exact h.l k hk
 have hWr:∀ k,k<zs.length→((hearX (takeX V 0) i f).nd k).R d=rf k:=by
  intro k hk
  show ((setNd (takeX V 0) i (hearN ((takeX V 0).nd i) f)).nd k).R d=rf k
  by_cases e:k=i
  ·subst e; rw [nd_at,hN]; exact h.r k hk
  ·rw [nd_ne _ _ _ e]; exact h.r k hk
 have hWd:((hearX (takeX V 0) i f).nd s).ld d=some (0,P):=by
  show ((setNd (takeX V 0) i (hearN ((takeX V 0).nd i) f)).nd s).ld d=some (0,P)
  by_cases e:s=i
  ·subst e; rw [nd_at,hN]; exact h.ld
  ·rw [nd_ne _ _ _ e]; exact h.ld
 have hWb:∀ a b,(hearX (takeX V 0) i f).br a b=false:=h.br
 have hWf:(hearX (takeX V 0) i f).fly=rest:=h.take
 generalize hearX (takeX V 0) i f=W at *
 generalize ansN i ((takeX V 0).nd i) f=L at *
 clear hN hput hh hfree hXh hfi hdel hNI
 generalize hO:(hearL (st i) (rf i) f.k.toNat f.a.toNat f.ph.toNat).st=o at *
 have hlen:W.evs.length=cnt (upd st i o) zs.length:=by
  rw [hev]
  unfold noteE
  have hec:=h.ec
  unfold mayN at hmay
  split
  ·rename_i hcnd
   have hf2:finB (st i).ph=false:=by
    refine decide_eq_false fun x=>hcnd.1 ?_
    omega
   rw [if_neg (by rw [hf2]; decide),if_pos hcnd.2.1] at hcu
   rw [List.length_append,List.length_singleton]
   omega
  ·rename_i hcnd
   by_cases hof:finB o.ph=true
   ·have heq:o.ph=(st i).ph:=by
     refine Classical.byContradiction fun x=>hcnd ⟨x,hof,?_⟩
     omega
    rw [← heq,if_pos hof] at hcu
    omega
   ·have hof2:finB (st i).ph=false:=by
     refine decide_eq_false fun x=>hof (decide_eq_true ?_)
     omega
    rw [if_neg hof,if_neg (by rw [hof2]; decide)] at hcu
    omega
 have hevs:∀ e,e∈W.evs→e.d=(d:Int)∧e.p=(p:Int):=by
  intro e he
  rw [hev] at he
  unfold noteE at he
  split at he
  ·rename_i hcnd
   rcases List.mem_append.1 he with x|x
   ·exact h.ev e x
   ·rw [List.mem_singleton] at x
    subst x
    exact ⟨rfl,by show (o.ph:Int)=p; rw [hfin hcnd.2.1]⟩
  ·exact h.ev e he
 exact ⟨hXs,hWl,hWr,hlen,hevs,hsd,hWd,hWb,by show W.fly ++ L=rest ++ L; rw [hWf]⟩
theorem CW.lead (h:CW zs d s p rf V m st P (f :: rest)) (hd:f.d=(d:Int)) (ht:f.t=(s:Int)) (hs:s<zs.length) (hk:isAns f.k=true) :
  CW zs d s p rf (deliverX zs V 0 f) (m+1) st (phear zs s d 0 P f).1 (rest ++ outL s d 0 zs.length (phear zs s d 0 P f).2):=by
 have hti:f.t.toNat=s:=by rw [ht]; exact Int.toNat_natCast s
 have hdi:f.d.toNat=d:=by rw [hd]; exact Int.toNat_natCast d
 have hmem:f∈V.fly:=by rw [h.fly]; exact List.mem_cons_self
 have hF:=h.xi.fr f hmem
 have hX1:XI zs (takeX V 0) m:=h.xi.take
 have hx:((takeX V 0).nd s).ld d=some (0,P):=h.ld
 have hdel:deliverX zs V 0 f=sendX (leadX zs (takeX V 0) s d f) (leadO zs (takeX V 0) s d f):=by
  unfold deliverX arriveX arriveO
  rw [if_pos (h.reach (by omega)),if_pos hk,if_pos hk,hti,hdi]
 have hXl:=hX1.lead hF hs (d:=d) (by have:=hF.ok.2.2.1; omega)
 rw [hdel]
 have e1:=(leadX_some (zs:=zs) (f:=f) hx).1
 have e2:=(leadX_some (zs:=zs) (f:=f) hx).2
 rw [e1,e2] at hXl ⊢
 generalize (phear zs s d 0 P f).1=Q at *
 have keep:∀ k,(setNd (takeX V 0) s (setLd ((takeX V 0).nd s) d (0,Q))).nd k=if k=s then setLd (V.nd s) d (0,Q) else V.nd k:=fun _=>rfl
 refine ⟨hXl,fun k hk=>?_,fun k hk=>?_,h.ec,h.ev,fun k hk=>?_,?_,h.br,?_⟩
 ·show ((setNd (takeX V 0) s (setLd ((takeX V 0).nd s) d (0,Q))).nd k).l=-1
  rw [keep]
  split
  ·exact h.l s hs
  ·exact h.l k hk
 ·show ((setNd (takeX V 0) s (setLd ((takeX V 0).nd s) d (0,Q))).nd k).R d=rf k
  rw [keep]
  split
  ·rename_i e; rw [e]; exact h.r s hs
  ·exact h.r k hk
 ·show stN ((setNd (takeX V 0) s (setLd ((takeX V 0).nd s) d (0,Q))).nd k) d=st k
  rw [keep]
  split
  ·rename_i e; rw [e]; exact h.st s hs
  ·exact h.st k hk
 ·show ((setNd (takeX V 0) s (setLd ((takeX V 0).nd s) d (0,Q))).nd s).ld d=_
  rw [nd_at,ld_at]
 ·show (takeX V 0).fly ++ _=_
  rw [h.take]
end
def frsL (g:Nat→F9) (k:Nat):List F9:=(List.range k).map g
def sufL (g:Nat→F9) (k n:Nat):List F9:=((List.range n).map g).drop k
theorem frsL_succ (g:Nat→F9) (k:Nat):frsL g (k+1)=frsL g k ++ [g k]:=by simp [frsL,List.range_succ]
theorem toL_frs (id:Nat) (deal kind att ph:Int):∀ n,toL id deal kind att ph n=frsL (fun k=>⟨id,k,deal,kind,att,false,ph,0,0⟩) n
 | 0=>rfl
 | n+1=>by rw [toL,toL_frs id deal kind att ph n,frsL_succ]
section
variable {zs:List Int} {d s p m:Nat} {rf:Nat→Bool} {V:PX} {st:Nat→St} {P:PL}
def askF (s d:Nat) (i:Nat):F9:=⟨s,i,d,1,0,false,0,0,0⟩
def votF (s d:Nat) (rf:Nat→Bool) (i:Nat):F9:=⟨i,s,d,2,0,!rf i,if rf i=true then 3 else 1,0,0⟩
end
theorem stN_fresh (i d:Nat) (hd:d<6):stN (newX.nd i) d=⟨0,0,0⟩:=by
 show (dealL (zeroB 512).data.toList d).2=_
 rw [deal_zero 512 d (by omega)]
 rfl
structure RfI (zs:List Int) (V:PX) (d:Nat) (rf:Nat→Bool):Prop where
 l:∀ i,i<zs.length→(V.nd i).l=-1
 r:∀ i,i<zs.length→(V.nd i).R d=rf i
 st:∀ i,i<zs.length→stN (V.nd i) d=⟨0,0,0⟩
 ld:∀ i,i<zs.length→(V.nd i).ld d=none
 br:∀ a b,V.br a b=false
 fly:V.fly=[]
 evs:V.evs=[]
section
variable {zs:List Int} {V:PX} {d s:Nat} {rf:Nat→Bool} {m:Nat}
theorem RfI.new (hd:d<6):RfI zs newX d (fun _=>false):=⟨fun _ _=>rfl,fun _ _=>rfl,fun i _=>stN_fresh i d hd,fun _ _=>rfl,fun _ _=>rfl,rfl,rfl⟩
theorem RfI.up (h:RfI zs V d rf) {i:Nat} (hi:i<zs.length):upN (V.nd i)=true:=by
 unfold upN; rw [h.l i hi]; rfl
theorem RfI.beg (h:RfI zs V d rf) (hs:s<zs.length) (hd:d<6):cBeg zs.length V (s:Int) (d:Int)=0:=by
 unfold cBeg
 rw [if_pos ⟨⟨by omega,by omega⟩,by omega,by omega⟩,Int.toNat_natCast,Int.toNat_natCast,if_pos (h.up hs),if_neg ?_]
 unfold heldX
 rw [Bool.not_eq_true,List.any_eq_false]
 intro i hi
 have hin:i<zs.length:=List.mem_range.1 hi
 rw [h.ld i hin,h.st i hin]
 decide
theorem RfI.cw (h:RfI zs V d rf) (hX:XI zs (beginX zs V s d) m) (p:Nat):CW zs d s p rf (beginX zs V s d) m (fun _=>⟨0,0,0⟩) P0 (sufL (askF s d) 0 zs.length ++ frsL (votF s d rf) 0):=by
 have keep:∀ i,(beginX zs V s d).nd i=if i=s then setLd (V.nd s) d (0,P0) else V.nd i:=fun _=>rfl
 refine ⟨hX,fun i hi=>?_,fun i hi=>?_,?_,fun e he=>?_,fun i hi=>?_,?_,h.br,?_⟩
 ·rw [keep]; split
  ·rename_i e; subst e; exact h.l i hi
  ·exact h.l i hi
 ·rw [keep]; split
  ·rename_i e; subst e; exact h.r i hi
  ·exact h.r i hi
 ·show V.evs.length=_
  rw [h.evs]
  have:∀ k,cnt (fun _=>⟨0,0,0⟩) k=0:=by
   intro k
   induction k with
   | zero=>rfl
   | succ k ih=>unfold cnt; rw [ih]; rfl
  exact (this _).symm
 ·have he2:e∈V.evs:=he
  rw [h.evs] at he2
  cases he2
 ·rw [keep]; split
  ·rename_i e; subst e; exact h.st i hi
  ·exact h.st i hi
 ·rw [keep,if_pos rfl,ld_at]
 ·show V.fly ++ toL s d 1 0 0 zs.length=_
  rw [h.fly,toL_frs,List.nil_append]
  show _=frsL (askF s d) zs.length ++ []
  rw [List.append_nil]
  rfl
end
end Go.Proofs.YtaehdgemkafinaaGreatDoor
