/-
  On the way to SAnewProof: O22.
-/
import Derived.Test.YtaehdgemkafinaaGreatDoorBv43
import Derived.Test.YtaehdgemkafinaaGreatDoorBv42
set_option maxHeartbeats 8000000
set_option maxRecDepth 100000
namespace Go.Proofs.YtaehdgemkafinaaGreatDoor
open Go.RowKit
structure SimO where
 st:Nat→St
 P:PL
 fly:List F9
 evs:List E3
def simO (zs:List Int) (d s:Nat) (x:SimO):SimO:=match x.fly with
 | []=>x
 | f :: rest=>if isAns f.k=true then { x with P:=(phear zs s d 0 x.P f).1,fly:=rest ++ outL s d 0 zs.length (phear zs s d 0 x.P f).2 } else
  let h:=hearL (x.st f.t.toNat) false f.k.toNat f.a.toNat f.ph.toNat
  { x with st:=upd x.st f.t.toNat h.st,fly:=rest ++ (if h.k≠0 then [ansF f.t.toNat f h] else []),evs:=noteE x.evs f.t.toNat d (x.st f.t.toNat).ph h.st.ph }
def simN (zs:List Int) (d s:Nat):Nat→SimO→SimO
 | 0,x=>x
 | k+1,x=>simN zs d s k (simO zs d s x)
def simOk (zs:List Int) (d s:Nat) (x:SimO):Bool:=match x.fly with
 | []=>false
 | f :: _=>decide (f.d=(d:Int)) && decide (0≤f.t) && (if isAns f.k=true then decide (f.t=(s:Int)) else decide (f.t<zs.length) && (!finB (hearL (x.st f.t.toNat) false f.k.toNat f.a.toNat f.ph.toNat).st.ph || decide ((hearL (x.st f.t.toNat) false f.k.toNat f.a.toNat f.ph.toNat).st.ph=2)))
def simAll (zs:List Int) (d s:Nat):Nat→SimO→Bool
 | 0,_=>true
 | k+1,x=>simOk zs d s x && simAll zs d s k (simO zs d s x)
section
variable {zs:List Int} {d s m:Nat} {V:PX} {x:SimO}
def SimW (zs:List Int) (d s:Nat) (V:PX) (m:Nat) (x:SimO):Prop:=CW zs d s 2 (fun _=>false) V m x.st x.P x.fly∧V.evs=x.evs
theorem SimW.step (h:SimW zs d s V m x) (hm:m<900000) (hs:s<zs.length) (ho:simOk zs d s x=true):∃ f rest,V.fly=f :: rest∧SimW zs d s (deliverX zs V 0 f) (m+2) (simO zs d s x):=by
 obtain ⟨hc,he⟩:=h
 obtain ⟨st,P,fly,evs⟩:=x
 cases fly with
 | nil=>cases ho
 | cons f rest =>
  refine ⟨f,rest,hc.fly,?_⟩
  simp only [simOk,Bool.and_eq_true,decide_eq_true_eq] at ho
  obtain ⟨⟨hd,ht0⟩,ho⟩:=ho
  by_cases hk:isAns f.k=true
  ·rw [if_pos hk] at ho
   have ht:=of_decide_eq_true ho
   have hcw:=hc.lead hd ht hs hk
   have hr:=hc.reach (show f.t.toNat<zs.length by rw [ht]; simpa using hs)
   refine ⟨?_,?_⟩
   ·have:simO zs d s ⟨st,P,f :: rest,evs⟩=⟨st,(phear zs s d 0 P f).1,rest ++ outL s d 0 zs.length (phear zs s d 0 P f).2,evs⟩:=by
     unfold simO; simp only; rw [if_pos hk]
    rw [this]
    exact ⟨hcw.xi.mono (by omega),hcw.l,hcw.r,hcw.ec,hcw.ev,hcw.st,hcw.ld,hcw.br,hcw.fly⟩
   ·have:(simO zs d s ⟨st,P,f :: rest,evs⟩).evs=evs:=by
     unfold simO; simp only; rw [if_pos hk]
    rw [this]
    unfold deliverX
    rw [if_pos hr]
    unfold arriveX
    rw [if_pos hk]
    show (leadX zs (takeX V 0) f.t.toNat f.d.toNat f).evs=evs
    unfold leadX
    split <;> exact he
  ·rw [if_neg hk] at ho
   simp only [Bool.and_eq_true,decide_eq_true_eq,Bool.or_eq_true,Bool.not_eq_true'] at ho
   obtain ⟨hi,hfin⟩:=ho
   have hkf:isAns f.k=false:=by simpa using hk
   have hti:f.t=(f.t.toNat:Int):=by omega
   have hil:f.t.toNat<zs.length:=by omega
   have hcw:=hc.site (by omega) hd hti hil hkf (fun hf=>by
    rcases hfin with q|q
    ·rw [q] at hf; cases hf
    ·exact q)
   have hr:=hc.reach hil
   have hsim:simO zs d s ⟨st,P,f :: rest,evs⟩=⟨upd st f.t.toNat (hearL (st f.t.toNat) false f.k.toNat f.a.toNat f.ph.toNat).st,P,rest ++ (if (hearL (st f.t.toNat) false f.k.toNat f.a.toNat f.ph.toNat).k≠0 then [ansF f.t.toNat f (hearL (st f.t.toNat) false f.k.toNat f.a.toNat f.ph.toNat)] else []),noteE evs f.t.toNat d (st f.t.toNat).ph (hearL (st f.t.toNat) false f.k.toNat f.a.toNat f.ph.toNat).st.ph⟩:=by
    unfold simO; simp only; rw [if_neg hk]
   rw [hsim]
   refine ⟨hcw,?_⟩
   have hdn:f.d.toNat=d:=by rw [hd]; exact Int.toNat_natCast d
   have e1:(deliverX zs V 0 f).evs=noteE V.evs f.t.toNat d (stN (V.nd f.t.toNat) d).ph (stN (hearN (V.nd f.t.toNat) f) d).ph:=by
    unfold deliverX
    rw [if_pos hr]
    unfold arriveX
    rw [if_neg hk]
    show noteE V.evs f.t.toNat f.d.toNat (stN (V.nd f.t.toNat) f.d.toNat).ph (stN (hearN (V.nd f.t.toNat) f) f.d.toNat).ph=_
    rw [hdn]
   have e2:stN (hearN (V.nd f.t.toNat) f) d=(hearL (st f.t.toNat) false f.k.toNat f.a.toNat f.ph.toNat).st:=by
    have h1:=hcw.st f.t.toNat hil
    have h2:(deliverX zs V 0 f).nd f.t.toNat=hearN (V.nd f.t.toNat) f:=by
     unfold deliverX
     rw [if_pos hr]
     unfold arriveX
     rw [if_neg hk]
     show (setNd (takeX V 0) f.t.toNat (hearN ((takeX V 0).nd f.t.toNat) f)).nd f.t.toNat=_
     unfold setNd
     simp only [if_true]
     rfl
    rw [h2] at h1
    rw [h1]
    unfold upd
    rw [if_pos rfl]
   rw [e1,e2,hc.st _ hil,he]
theorem sim_run:∀ (k:Nat) (V:PX) (m:Nat) (x:SimO),SimW zs d s V m x→m+2 * k<900000→s<zs.length→simAll zs d s k x=true→(simN zs d s k x).fly=[]→∀ K,k≤K→delN zs K V=k∧SimW zs d s (delX zs K V) (m+2 * k) (simN zs d s k x)
 | 0,V,m,x,h,_,_,_,hf,K,_=>by
  have hfl:V.fly=[]:=h.1.fly.trans hf
  rw [delN_nil hfl]
  have:delX zs K V=V:=by
   cases K with
   | zero=>rfl
   | succ K=>show (match V.fly with|[]=>V|f :: _=>delX zs K (deliverX zs V 0 f))=V; rw [hfl]
  rw [this]
  exact ⟨rfl,h⟩
 | k+1,V,m,x,h,hm,hs,ha,hf,K,hK=>by
  obtain ⟨K',rfl⟩:∃ K',K=K'+1:=⟨K - 1,by omega⟩
  simp only [simAll,Bool.and_eq_true] at ha
  obtain ⟨f,rest,hfl,hw⟩:=h.step (by omega) hs ha.1
  have hd:delX zs (K'+1) V=delX zs K' (deliverX zs V 0 f):=by
   show (match V.fly with|[]=>V|f :: _=>delX zs K' (deliverX zs V 0 f))=_
   rw [hfl]
  obtain ⟨h1,h2⟩:=sim_run k _ (m+2) _ hw (by omega) hs ha.2 hf K' (by omega)
  rw [delN_cons hfl,hd,h1]
  exact ⟨rfl,by rw [show m+2 * (k+1)=m+2+2 * k by omega]; exact h2⟩
end
def simStart:SimO:=⟨fun _=>⟨0,0,0⟩,P0,[askF 0 3 0,askF 0 3 1],[]⟩
theorem sim_ok:simAll [1,1] 3 0 10 simStart=true:=by decide +kernel
theorem sim_fly:(simN [1,1] 3 0 10 simStart).fly=[]:=by
 have:(simN [1,1] 3 0 10 simStart).fly.length=0:=by decide +kernel
 exact List.length_eq_zero_iff.1 this
theorem sim_evs:((simN [1,1] 3 0 10 simStart).evs.map fun e=>(e.s,e.d,e.p))=[(0,3,2),(1,3,2)]:=by decide +kernel
theorem sim_st:((simN [1,1] 3 0 10 simStart).st 1).ph=2∧((simN [1,1] 3 0 10 simStart).st 1).pr=0∧((simN [1,1] 3 0 10 simStart).st 1).at_=0:=by decide +kernel
theorem ni_new (n m:Nat):NI n (newN 512) m:=by
 have hz:∀ d,d<6→dlN (newN 512) d=(0,St.zero):=fun d hd=>by
  show dealL (zeroB 512).data.toList d=_
  rw [deal_zero 512 d (by omega)]
 refine ⟨fun d hd=>by rw [hz d hd]; exact ⟨by decide,by decide,by decide⟩,fun d hd=>by rw [hz d hd]; exact Nat.zero_le _,zeroB_size 512,fun _=>rfl,by decide,by decide,(fun d x h=>by cases h)⟩
theorem xi_new {zs:List Int} (he:errW zs=0):XI zs newX 0:=⟨he,fun i _=>ni_new zs.length 0,(fun f h=>by cases h),Nat.le_refl _,Nat.zero_le _⟩
theorem xi_hello:XI [1,1] (beginX [1,1] newX 0 3) 1:=by
 have h0:XI [1,1] newX 0:=xi_new (by decide)
 have h1:NI 2 (setLd (newX.nd 0) 3 (0,P0)) 0:=(ni_new 2 0).putLead (by decide) (by decide) (by decide) (by decide) ⟨by decide,by decide,by decide⟩
 have h2:=(h0.node (i:=0) h1 (Nat.le_refl _)).send (L:=toL 0 3 1 0 0 2) (fun f hf=>by
  have hl:toL 0 3 1 0 0 2=[askF 0 3 0,askF 0 3 1]:=by rw [toL_frs]; rfl
  rw [hl] at hf
  rcases List.mem_cons.1 hf with rfl|hf
  ·exact ⟨by decide,by decide,by decide,by decide,by decide⟩
  ·rcases List.mem_cons.1 hf with rfl|hf
   ·exact ⟨by decide,by decide,by decide,by decide,by decide⟩
   ·cases hf) (by rw [toL_frs]; decide)
 exact h2
theorem hello_world:delN [1,1] 3000 (beginX [1,1] newX 0 3)=10∧(delX [1,1] 3000 (beginX [1,1] newX 0 3)).evs=[⟨0,3,2⟩,⟨1,3,2⟩]∧stN ((delX [1,1] 3000 (beginX [1,1] newX 0 3)).nd 1) 3=⟨2,0,0⟩∧cBeg 2 newX 0 3=0:=by
 have hR:RfI [1,1] newX 3 (fun _=>false):=RfI.new (by decide)
 have hc:=hR.cw xi_hello 2
 have hw:SimW [1,1] 3 0 (beginX [1,1] newX 0 3) 1 simStart:=⟨hc,rfl⟩
 obtain ⟨h1,h2,h3⟩:=sim_run 10 _ 1 simStart hw (by omega) (by decide) sim_ok sim_fly 3000 (by omega)
 refine ⟨h1,?_,?_,hR.beg (by decide) (by decide)⟩
 ·rw [h3]
  have:=sim_evs
  revert this
  generalize (simN [1,1] 3 0 10 simStart).evs=L
  intro h
  have hl:L.length=2:=by have:=congrArg List.length h; simpa using this
  match L,hl,h with
  | [a,b],_,h =>
   simp only [List.map_cons,List.map_nil,List.cons.injEq,Prod.mk.injEq,and_true] at h
   obtain ⟨⟨a1,a2,a3⟩,b1,b2,b3⟩:=h
   obtain ⟨x1,x2,x3⟩:=a
   obtain ⟨y1,y2,y3⟩:=b
   simp_all
 ·rw [h2.st 1 (by decide)]
  have:=sim_st
  revert this
  generalize (simN [1,1] 3 0 10 simStart).st 1=t
  rintro ⟨e1,e2,e3⟩
  obtain ⟨t1,t2,t3⟩:=t
  simp_all
end Go.Proofs.YtaehdgemkafinaaGreatDoor
