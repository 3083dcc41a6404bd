/-
  On the way to SPlaysProof: YR YY GA N4 UB YL YM YN YOR.
-/
import Derived.Test.YtaehdgemkafinaaGreatDoorBw30
set_option maxHeartbeats 8000000
set_option maxRecDepth 100000
namespace Go.Proofs.YtaehdgemkafinaaGreatDoor
open Go.RowKit
def wtF (f:F9):Nat:=if f.k=1 ∨ f.k=3 ∨ f.k=5 then 2 else 1
def wtL (L:List F9):Nat:=(L.map wtF).sum
def potL (n:Nat):Option (Int×PL)→Nat
 | none=>0
 | some y=>if y.2.stt=0 then 3 * n else if y.2.stt=1 then n else 0
def sumN (g:Nat→Nat):Nat→Nat
 | 0=>0
 | k+1=>sumN g k+g k
theorem sumN_le {g h:Nat→Nat}:∀ {k:Nat},(∀ i,i<k→g i≤h i)→sumN g k≤sumN h k
 | 0,_=>Nat.le_refl _
 | k+1,hl=>Nat.add_le_add (sumN_le fun i hi=>hl i (by omega)) (hl k (by omega))
theorem sumN_one {g h:Nat→Nat} {j a b:Nat}:∀ {k:Nat},j<k→(∀ i,i<k→i≠j→g i≤h i)→g j+a≤h j+b→sumN g k+a≤sumN h k+b
 | 0,hj,_,_=>absurd hj (Nat.not_lt_zero _)
 | k+1,hj,hl,hab=>by
  show sumN g k+g k+a≤sumN h k+h k+b
  by_cases e:j=k
  ·subst e
   have:=sumN_le (g:=g) (h:=h) (k:=j) fun i hi=>hl i (by omega) (by omega)
   omega
  ·have h1:=sumN_one (k:=k) (by omega) (fun i hi hne=>hl i (by omega) hne) hab
   have h2:=hl k (by omega) (fun q=>e q.symm)
   omega
def potN (n:Nat) (N:PN):Nat:=sumN (fun d=>potL n (N.ld d)) 6
def pot (zs:List Int) (V:PX):Nat:=wtL V.fly+sumN (fun i=>potN zs.length (V.nd i)) zs.length
theorem wtL_append (L M:List F9):wtL (L ++ M)=wtL L+wtL M:=by simp [wtL]
theorem wtL_erase:∀ (L:List F9) (k:Nat) (f:F9),L[k]? = some f→wtL (L.eraseIdx k)+wtF f=wtL L
 | [],_,_,h=>by simp at h
 | g :: r,0,f,h=>by
  obtain rfl:g=f:=by simpa using h
  simp [wtL]
  omega
 | g :: r,k+1,f,h=>by
  have:=wtL_erase r k f (by simpa using h)
  simp [wtL] at this ⊢
  omega
theorem wtL_to (id:Nat) (deal kind att ph:Int) (n:Nat):wtL (toL id deal kind att ph n)=n * (if kind=1 ∨ kind=3 ∨ kind=5 then 2 else 1):=by
 induction n with
 | zero=>simp [toL,wtL]
 | succ n ih =>
  rw [toL,wtL_append,ih,Nat.succ_mul]
  rfl
section
variable {zs:List Int} {V:PX} {m:Nat}
theorem pot_lead {i:Nat} {d att:Int} {P:PL} {f:F9} (n:Nat) (hn:zs.length=n):potL n (some (att,(phear zs i d att P f).1))+wtL (outL i d att n (phear zs i d att P f).2)≤potL n (some (att,P)):=by
 have key:∀ x:PL×Option (Int×Int),(x.2=none∧(x.1.stt=P.stt ∨ 2≤x.1.stt)) ∨ (∃ p,x.2=some (7,p)∧x.1.stt=2∧P.stt≤1) ∨ (∃ p,x.2=some (5,p)∧x.1.stt=1∧P.stt=0)→potL n (some (att,x.1))+wtL (outL i d att n x.2)≤potL n (some (att,P)):=by
  rintro ⟨Q,o⟩ (⟨h1,h2⟩|⟨p,h1,h2,h3⟩|⟨p,h1,h2,h3⟩)
  ·simp only at h1 h2
   subst h1
   show potL n (some (att,Q))+0≤_
   unfold potL
   simp only
   rcases h2 with h2|h2
   ·rw [h2]; exact Nat.le_refl _
   ·rw [if_neg (by omega),if_neg (by omega)]; exact Nat.zero_le _
  ·simp only at h1 h2
   subst h1
   show potL n (some (att,Q))+wtL (toL i d 7 att p n)≤_
   rw [wtL_to,if_neg (by decide)]
   unfold potL
   simp only
   rw [h2,if_neg (by decide),if_neg (by decide)]
   have:P.stt=0 ∨ P.stt=1:=by omega
   rcases this with e|e <;> rw [e] <;> simp <;> omega
  ·simp only at h1 h2
   subst h1
   show potL n (some (att,Q))+wtL (toL i d 5 att p n)≤_
   rw [wtL_to,if_pos (by decide)]
   unfold potL
   simp only
   rw [h2,h3,if_neg (by decide),if_pos rfl,if_pos rfl]
   omega
 refine key _ ?_
 unfold phear
 by_cases ht:takesB zs.length i d att P f=true
 ·rw [if_pos ht]
  obtain ⟨-,hw,-,-⟩:=takesB_in ht
  obtain ⟨q1,-,-,-⟩:=seeP_of (noteP P f) f.pr
  have q1':(seeP (noteP P f) f.pr).stt=P.stt:=q1
  unfold takenP
  rcases waitsY hw with ⟨e1,e2,-⟩|⟨e1,e2,-⟩|⟨e1,e2⟩
  ·rw [if_pos e1]
   unfold voteP
   split
   ·exact .inr (.inl ⟨3,rfl,rfl,by omega⟩)
   ·split
    ·exact .inr (.inr ⟨4,rfl,rfl,e2⟩)
    ·exact .inl ⟨rfl,.inl rfl⟩
  ·rw [if_neg (by omega)]
   split
   ·exact .inl ⟨rfl,.inr (by show 2≤3; decide)⟩
   ·first|rw [if_pos e1]|skip
    unfold tellP
    split
    ·exact .inl ⟨rfl,.inl q1'⟩
    ·split
     ·exact .inr (.inl ⟨_,rfl,rfl,by omega⟩)
     ·exact .inr (.inr ⟨_,rfl,rfl,e2⟩)
  ·rw [if_neg (by omega)]
   split
   ·exact .inl ⟨rfl,.inr (by show 2≤3; decide)⟩
   ·first|rw [if_neg (show ¬ f.k=4 by omega)]|skip
    unfold ackP
    split
    ·exact .inl ⟨rfl,.inl q1'⟩
    ·exact .inr (.inl ⟨_,rfl,rfl,by omega⟩)
 ·rw [if_neg ht]
  exact .inl ⟨rfl,.inl rfl⟩
theorem wtF_pos (f:F9):1≤wtF f:=by unfold wtF; split <;> omega
theorem pot_ans {i:Nat} {N:PN} {f:F9}:wtL (ansN i N f)+1≤wtF f:=by
 unfold ansN
 split
 ·rename_i hc
  have hk:=hc.2
  have h7:∀ s r k a p,(hearL s r k a p).k≠0→(k=1∧(hearL s r k a p).k=2) ∨ (k=3∧(hearL s r k a p).k=4) ∨ (k=5∧(hearL s r k a p).k=6):=by
   intro s r k a p
   unfold hearL
   repeat' split
   all_goals simp
   all_goals assumption
  have:=h7 _ _ _ _ _ hk
  have hw:wtF f=2:=by
   unfold wtF
   rw [if_pos]
   omega
  have hz:∀ a b c:Int,∀ y:Bool,∀ p q r:Int,((gHN N f).k=2 ∨ (gHN N f).k=4 ∨ (gHN N f).k=6)→wtL [⟨a,b,c,(gHN N f).k,f.a,y,p,q,r⟩]=1:=by
   intro a b c y p q r h
   show wtF ⟨a,b,c,(gHN N f).k,f.a,y,p,q,r⟩+0=1
   unfold wtF
   rw [if_neg]
   show ¬ (((gHN N f).k:Int)=1 ∨ ((gHN N f).k:Int)=3 ∨ ((gHN N f).k:Int)=5)
   omega
  rw [hz _ _ _ _ _ _ _ (by rcases this with x|x|x; exact .inl x.2; exact .inr (.inl x.2); exact .inr (.inr x.2)),hw]
  exact Nat.le_refl _
 ·have:=wtF_pos f
  show 0+1≤_
  omega
theorem pot_hear (N:PN) (f:F9) (n:Nat):potN n (hearN N f)≤potN n N:=by
 unfold potN
 refine sumN_le fun d _=>?_
 unfold hearN
 split
 ·exact Nat.zero_le _
 ·exact Nat.le_refl _
theorem pot_deliver {k:Nat} {f:F9} (hX:XI zs V m) (hk:V.fly[k]? = some f):pot zs (deliverX zs V k f)+1≤pot zs V:=by
 have hf:f∈V.fly:=List.mem_iff_getElem?.2 ⟨k,hk⟩
 have hF:=hX.fr f hf
 have ht:f.t.toNat<zs.length:=by have:=hF.t0; have:=hF.t1; omega
 have hd6:0≤f.d∧f.d≤5:=hF.ok.2.2.1
 have hw:=wtL_erase V.fly k f hk
 have hp:=wtF_pos f
 unfold deliverX
 split
 ·unfold arriveX arriveO
  split
  ·cases hx:((takeX V k).nd f.t.toNat).ld f.d.toNat with
   | none =>
    rw [(leadX_none hx).1,(leadX_none hx).2,sendX_nil]
    show wtL (V.fly.eraseIdx k)+sumN (fun i=>potN zs.length (V.nd i)) zs.length+1≤wtL V.fly+sumN (fun i=>potN zs.length (V.nd i)) zs.length
    omega
   | some x =>
    rw [(leadX_some hx).1,(leadX_some hx).2]
    have hl:=pot_lead (zs:=zs) (i:=f.t.toNat) (d:=(f.d.toNat:Int)) (att:=x.1) (P:=x.2) (f:=f) zs.length rfl
    show wtL (V.fly.eraseIdx k ++ outL f.t.toNat f.d.toNat x.1 zs.length (phear zs f.t.toNat f.d.toNat x.1 x.2 f).2)+sumN (fun i=>potN zs.length ((setNd (takeX V k) f.t.toNat (setLd ((takeX V k).nd f.t.toNat) f.d.toNat (x.1,(phear zs f.t.toNat f.d.toNat x.1 x.2 f).1))).nd i)) zs.length+1≤wtL V.fly+sumN (fun i=>potN zs.length (V.nd i)) zs.length
    rw [wtL_append]
    generalize (phear zs f.t.toNat f.d.toNat x.1 x.2 f)=R at *
    have hs:=sumN_one (g:=fun i=>potN zs.length ((setNd (takeX V k) f.t.toNat (setLd ((takeX V k).nd f.t.toNat) f.d.toNat (x.1,R.1))).nd i)) (h:=fun i=>potN zs.length (V.nd i)) (j:=f.t.toNat) (a:=wtL (outL f.t.toNat f.d.toNat x.1 zs.length R.2)) (b:=0) ht
     (fun i _ hne=>by show potN _ _≤potN _ _; rw [nd_ne _ _ _ hne]; exact Nat.le_refl _) (by
      show potN zs.length ((setNd (takeX V k) f.t.toNat (setLd ((takeX V k).nd f.t.toNat) f.d.toNat (x.1,R.1))).nd f.t.toNat)+_≤potN zs.length (V.nd f.t.toNat)+0
      rw [nd_at]
      unfold potN
      refine sumN_one (j:=f.d.toNat) (by omega) (fun e _ hne=>by show potL _ _≤potL _ _; rw [ld_ne _ _ _ hne]; exact Nat.le_refl _) ?_
      show potL zs.length ((setLd ((takeX V k).nd f.t.toNat) f.d.toNat (x.1,R.1)).ld f.d.toNat)+_≤potL zs.length ((V.nd f.t.toNat).ld f.d.toNat)+0
      rw [ld_at,show (V.nd f.t.toNat).ld f.d.toNat=some x from hx]
      exact hl)
    omega
  ·have ha:=pot_ans (i:=f.t.toNat) (N:=(takeX V k).nd f.t.toNat) (f:=f)
   show wtL (V.fly.eraseIdx k ++ ansN f.t.toNat ((takeX V k).nd f.t.toNat) f)+sumN (fun i=>potN zs.length ((setNd (takeX V k) f.t.toNat (hearN ((takeX V k).nd f.t.toNat) f)).nd i)) zs.length+1≤wtL V.fly+sumN (fun i=>potN zs.length (V.nd i)) zs.length
   rw [wtL_append]
   have hs:=sumN_le (g:=fun i=>potN zs.length ((setNd (takeX V k) f.t.toNat (hearN ((takeX V k).nd f.t.toNat) f)).nd i)) (h:=fun i=>potN zs.length (V.nd i)) (k:=zs.length) (fun i _=>by
    show potN _ _≤potN _ _
    by_cases e:i=f.t.toNat
    ·subst e; rw [nd_at]; exact pot_hear _ _ _
    ·rw [nd_ne _ _ _ e]; exact Nat.le_refl _)
   omega
 ·show wtL (V.fly.eraseIdx k)+sumN (fun i=>potN zs.length (V.nd i)) zs.length+1≤wtL V.fly+sumN (fun i=>potN zs.length (V.nd i)) zs.length
  omega
end
section
variable {zs:List Int} {V V':PX} {m:Nat}
theorem pot_send (L:List F9):pot zs (sendX V L)=pot zs V+wtL L:=by
 show wtL (V.fly ++ L)+_=wtL V.fly+_+_
 rw [wtL_append]
 show wtL V.fly+wtL L+sumN (fun i=>potN zs.length (V.nd i)) zs.length=_
 omega
theorem sumN_set {g h:Nat→Nat} {j c:Nat} (hl:∀ i,i≠j→g i≤h i) (hj:g j≤h j+c):∀ k,sumN g k≤sumN h k+c:=fun k=>by
 by_cases e:j<k
 ·have:=sumN_one (g:=g) (h:=h) (j:=j) (a:=0) (b:=c) (k:=k) e (fun i _ hne=>hl i hne) (by omega)
  omega
 ·have:=sumN_le (g:=g) (h:=h) (k:=k) fun i hi=>hl i (by omega)
  omega
theorem pot_node {i c:Nat} {N:PN} (h:potN zs.length N≤potN zs.length (V.nd i)+c):pot zs (setNd V i N)≤pot zs V+c:=by
 show wtL V.fly+sumN (fun k=>potN zs.length ((setNd V i N).nd k)) zs.length≤wtL V.fly+sumN (fun k=>potN zs.length (V.nd k)) zs.length+c
 have:=sumN_set (g:=fun k=>potN zs.length ((setNd V i N).nd k)) (h:=fun k=>potN zs.length (V.nd k)) (j:=i) (c:=c) (fun k hk=>by show potN _ _≤potN _ _; rw [nd_ne _ _ _ hk]; exact Nat.le_refl _) (by show potN _ _≤potN _ _+c; rw [nd_at]; exact h) zs.length
 omega
theorem pot_hearX (i:Nat) (f:F9):pot zs (hearX V i f)≤pot zs V :=
 pot_node (V:=V) (i:=i) (c:=0) (N:=hearN (V.nd i) f) (pot_hear _ _ _)
theorem pot_setLd (n:Nat) (N:PN) (d:Nat) (x:Int×PL):potN n (setLd N d x)≤potN n N+potL n (some x):=by
 unfold potN
 refine sumN_set (j:=d) (fun i hi=>?_) ?_ 6
 ·show potL n ((setLd N d x).ld i)≤_
  rw [ld_ne _ _ _ hi]; exact Nat.le_refl _
 ·show potL n ((setLd N d x).ld d)≤_
  rw [ld_at]; exact Nat.le_add_left _ _
theorem pot_hears (s d:Nat) (a:Int):∀ (L:List F9) (P:PL),potL zs.length (some (a,(hearsL zs s d a P L).1))+wtL (hearsL zs s d a P L).2≤potL zs.length (some (a,P))
 | [],P=>Nat.le_refl _
 | f :: r,P=>by
  have h1:=pot_hears s d a r (phear zs s d a P f).1
  have h2:=pot_lead (zs:=zs) (i:=s) (d:=d) (att:=a) (P:=P) (f:=f) zs.length rfl
  unfold hearsL
  show potL zs.length (some (a,(hearsL zs s d a (phear zs s d a P f).1 r).1))+wtL (outL s d a zs.length (phear zs s d a P f).2 ++ (hearsL zs s d a (phear zs s d a P f).1 r).2)≤_
  rw [wtL_append]
  omega
theorem wtL_less (L:List F9) (k:Nat):wtL (L.eraseIdx k)≤wtL L:=by
 cases h:L[k]? with
 | none=>rw [List.eraseIdx_of_length_le (List.getElem?_eq_none_iff.1 h)]; exact Nat.le_refl _
 | some f=>have:=wtL_erase L k f h; omega
theorem pot_try (s d:Nat) (a:Int):pot zs (tryX zs V s d a)≤pot zs V+5 * zs.length:=by
 unfold tryX
 split
 ·omega
 ·split
  ·have:=pot_hearX (zs:=zs) (V:=V) s (electF s d a); omega
  ·rw [pot_send,wtL_append]
   have h1:=pot_hearX (zs:=zs) (V:=V) s (electF s d a)
   have h2:=pot_hears (zs:=zs) s d a (ansN s (V.nd s) (electF s d a)) P0
   have h3:potL zs.length (some (a,P0))=3 * zs.length:=rfl
   have h4:=wtL_less (toL s d 3 a 0 zs.length) s
   have h5:wtL (toL s d 3 a 0 zs.length)=zs.length * 2:=by rw [wtL_to,if_pos (by decide)]
   have h6:=pot_setLd zs.length (hearN (V.nd s) (electF s d a)) d (a,(hearsL zs s d a P0 (ansN s (V.nd s) (electF s d a))).1)
   have h7:=pot_node (zs:=zs) (V:=hearX V s (electF s d a)) (i:=s) (c:=potL zs.length (some (a,(hearsL zs s d a P0 (ansN s (V.nd s) (electF s d a))).1))) (N:=setLd (hearN (V.nd s) (electF s d a)) d (a,(hearsL zs s d a P0 (ansN s (V.nd s) (electF s d a))).1)) (by
    have e:(hearX V s (electF s d a)).nd s=hearN (V.nd s) (electF s d a):=nd_at V s _
    rw [e]; exact h6)
   have h8:wtL (electL s d a zs.length)≤zs.length * 2:=by rw [← h5]; exact h4
   omega
theorem pot_ticks (s d:Nat):pot zs (tickD zs V s d)≤pot zs V+5 * zs.length:=by
 unfold tickD
 split
 ·omega
 ·split
  ·rw [pot_send,wtL_to,if_neg (by decide)]; omega
  ·exact pot_try s d _
theorem pot_tick (s:Nat):∀ (k d:Nat) (V:PX),pot zs (tickX zs s k d V)≤pot zs V+k * (5 * zs.length)
 | 0,_,V=>by show pot zs V≤_; omega
 | k+1,d,V=>by
  have h1:=pot_ticks (zs:=zs) (V:=V) s d
  have e:(k+1) * (5 * zs.length)=k * (5 * zs.length)+5 * zs.length:=Nat.succ_mul _ _
  unfold tickX
  split
  ·have h2:=pot_tick s k (d+1) (tickD zs V s d)
   omega
  ·omega
theorem Stp.pot (h:Stp zs V V') (hX:XI zs V m):pot zs V'≤pot zs V+210:=by
 have n7:=(errW_zero hX.he).2.1
 rcases h with rfl|⟨s,d,hs,hd,hc,rfl⟩|⟨s,d,hs,hu,rfl⟩|⟨s,hs,hu,rfl⟩|⟨s,hs,hu,rfl⟩|⟨s,hs,hu,rfl⟩|⟨k,rfl⟩|⟨k,f,hf,rfl⟩|⟨a,b,x,rfl⟩|⟨s,n,hs,rfl⟩|⟨k,f,hk,rfl⟩
 ·omega
 ·unfold beginX
  rw [pot_send,wtL_to,if_pos (by decide)]
  have h6:=pot_setLd zs.length (V.nd s) d (0,P0)
  have h3:potL zs.length (some ((0:Int),P0))=3 * zs.length:=rfl
  have:=pot_node (zs:=zs) (V:=V) (i:=s) h6
  omega
 ·have:=pot_node (zs:=zs) (V:=V) (i:=s) (c:=0) (N:={ V.nd s with R:=updR (V.nd s).R d }) (Nat.le_refl _)
  show pot zs (setNd V s _)≤_
  omega
 ·have:=pot_tick (zs:=zs) s 6 0 V
  omega
 ·have:=pot_node (zs:=zs) (V:=V) (i:=s) (c:=0) (N:=fallN (V.nd s)) (Nat.zero_le _)
  show pot zs (setNd V s _)≤_
  omega
 ·have:=pot_node (zs:=zs) (V:=V) (i:=s) (c:=0) (N:={ V.nd s with l:=-1,over:=false,R:=fun _=>false }) (Nat.le_refl _)
  show pot zs (setNd V s _)≤_
  omega
 ·show wtL (V.fly.eraseIdx k)+sumN (fun i=>potN zs.length (V.nd i)) zs.length≤wtL V.fly+sumN (fun i=>potN zs.length (V.nd i)) zs.length+210
  have:=wtL_less V.fly k
  omega
 ·show wtL (V.fly.take k ++ f :: V.fly.drop k)+sumN (fun i=>potN zs.length (V.nd i)) zs.length≤wtL V.fly+sumN (fun i=>potN zs.length (V.nd i)) zs.length+210
  have h1:wtL V.fly=wtL (V.fly.take k)+wtL (V.fly.drop k):=by rw [← wtL_append,List.take_append_drop]
  have h2:wtL (f :: V.fly.drop k)=wtF f+wtL (V.fly.drop k):=by simp [wtL]
  have h3:wtF f≤2:=by unfold wtF; split <;> omega
  rw [wtL_append,h2]
  omega
 ·show pot zs V≤_
  omega
 ·have:=pot_node (zs:=zs) (V:=V) (i:=s) (c:=0) (N:={ V.nd s with l:=cL (V.nd s).l n }) (Nat.le_refl _)
  show pot zs (setNd V s _)≤_
  omega
 ·have:=pot_deliver hX hk
  omega
end
def ticksX (zs:List Int) (set:Int):Nat→PX→PX
 | 0,V=>V
 | k+1,V=>if bit set k=true∧upN ((ticksX zs set k V).nd k)=true then tickX zs k 6 0 (ticksX zs set k V) else ticksX zs set k V
def delX (zs:List Int):Nat→PX→PX
 | 0,V=>V
 | k+1,V=>match V.fly with
  | []=>V
  | f :: _=>delX zs k (deliverX zs V 0 f)
section
variable {zs:List Int} {set:Int} {V V':PX} {m M:Nat}
theorem del_nil {k:Nat} (h:V.fly=[]):delX zs k V=V:=by
 cases k with
 | zero=>rfl
 | succ k=>unfold delX; rw [h]
theorem XI.deliver {k:Nat} {f:F9} (hX:XI zs V m) (hm:m<4000000000) (hf:f∈V.fly):XI zs (deliverX zs V k f) (m+2):=by
 have hF:=hX.fr f hf
 have hX1:XI zs (takeX V k) m:=hX.take
 have t0:=hF.t0; have t1:=hF.t1
 have hd6:0≤f.d∧f.d≤5:=hF.ok.2.2.1
 unfold deliverX
 split
 ·rename_i hr
  have hu:((takeX V k).nd f.t.toNat).l≠-2:=by
   show (V.nd f.t.toNat).l≠-2
   unfold reachB at hr
   rw [Bool.and_eq_true] at hr
   have:=hr.1
   unfold upN at this
   simpa using this
  unfold arriveX arriveO
  split
  ·exact (hX1.lead hF (by omega) (by omega)).mono (by omega)
  ·rename_i ha
   have h2:=hX1.hear hu hF hm (by omega)
   have hle:(ansN f.t.toNat ((takeX V k).nd f.t.toNat) f).length≤1000:=by
    unfold ansN
    split
    ·show 1≤1000; decide
    ·show 0≤1000; decide
   exact h2.send (ansN_fi (hX1.nd _ (by omega)) hu hF hm (by omega)) hle
 ·exact hX1.mono (by omega)
end
def delN (zs:List Int):Nat→PX→Nat
 | 0,_=>0
 | k+1,V=>match V.fly with
  | []=>0
  | f :: _=>delN zs k (deliverX zs V 0 f)+1
section
variable {zs:List Int} {V:PX} {m:Nat}
theorem delN_nil {k:Nat} (h:V.fly=[]):delN zs k V=0:=by
 cases k with
 | zero=>rfl
 | succ k=>unfold delN; rw [h]
theorem delN_cons {k:Nat} {f:F9} {rest:List F9} (h:V.fly=f :: rest):delN zs (k+1) V=delN zs k (deliverX zs V 0 f)+1:=by
 show (match V.fly with|[]=>0|f :: _=>delN zs k (deliverX zs V 0 f)+1)=_
 rw [h]
end
def ptrsTo (K:Nat→NB) (k:Nat):List Value:=(List.range k).map fun i=>.pointer (some ⟨(K i).nd,0,none⟩)
theorem ptrsTo_succ (K:Nat→NB) (k:Nat):ptrsTo K (k+1)=ptrsTo K k ++ [.pointer (some ⟨(K k).nd,0,none⟩)]:=by simp [ptrsTo,List.range_succ]
theorem ptrsTo_same {K L:Nat→NB} {k:Nat} (h:∀ i,i<k→(K i).nd=(L i).nd):ptrsTo K k=ptrsTo L k:=by
 unfold ptrsTo
 refine List.map_congr_left fun i hi=>?_
 rw [h i (List.mem_range.1 hi)]
theorem Tryz.infoPN:(Tryz.prog.info? 138).map (fun i=>(i.zero,i.size,i.bytes))=some (some (.pointer none),1,8):=by kernel_rfl
structure WN (w0 w:World) (C:Nat→Nat) (xb wb wc mb:Nat) (nv:Value) (K:Nat→NB) (zs:List Int) (k:Nat):Prop where
 bel:Below w0.heap.size w0 w
 row:w.heap[xb]? = some (.cells #[.slice (some ⟨wb,0,none⟩) zs.length wc,nv,.map (some mb),.slice none 0 0,.slice none 0 0] 148 (0,0))
 ws:∀ i,i<zs.length→w.cell? ⟨wb,0+i,none⟩=some (.int .i64 (zs.getD i 0))
 ns:w.ownsRow w0.heap.size 138 1 nv k (ptrsTo K k)
 nds:∀ i,i<k→ND w0 w C (K i) i zs (newN 512) 0
 brk:w.ownsMap Tryz.prog 172 (unitElem (H:=Unit)) mb 0 (.map [])
 cx:C xb=1001
 cw:C wb=1002
 cm:C mb=1004
 cn:∀ g,nv.ownBlock=some g→C g=1003
 lt:∀ x,C x<2000→x<w.heap.size
 low:∀ x,C x<2000→w0.heap.size≤x
section
variable {w0 w w':World} {C C':Nat→Nat} {xb wb wc mb k:Nat} {nv:Value} {K:Nat→NB} {zs:List Int} {A:Nat→Addr}
theorem WN.later (h:WN w0 w C xb wb wc mb nv K zs k) (hb:Below w.heap.size w w'):WN w0 w' C xb wb wc mb nv K zs k:=by
 have kk:Kept (fun _=>False) w w':=Kept.of_below hb
 exact ⟨h.bel.trans (hb.mono h.bel.size),kk.row h.row (fun x=>x),fun i hi=>cell_kept (h.ws i hi) kk (fun x=>x),own_kept h.ns kk (fun _ _ x=>x),fun i hi=>(h.nds i hi).later hb,ownsMap_kept h.brk kk (fun x=>x),h.cx,h.cw,h.cm,h.cn,fun x hx=>Nat.lt_of_lt_of_le (h.lt x hx) hb.size,h.low⟩
theorem WN.recolor (h:WN w0 w C xb wb wc mb nv K zs k) (hk:k≤9) (hC:∀ x,C x<2000→C' x=C x) (hl:∀ x,C' x<2000→x<w.heap.size) (hw:∀ x,C' x<2000→w0.heap.size≤x):WN w0 w C' xb wb wc mb nv K zs k:=by
 have e1:=h.cx; have e2:=h.cw; have e4:=h.cm
 exact ⟨h.bel,h.row,h.ws,h.ns,fun i hi=>(h.nds i hi).recolor (by omega) hC,h.brk,(hC _ (by omega)).trans e1,(hC _ (by omega)).trans e2,(hC _ (by omega)).trans e4,fun g hg=>(hC g (by have:=h.cn g hg; omega)).trans (h.cn g hg),hl,hw⟩
theorem newN_ni (n:Nat):NI n (newN 512) 0:=by
 have h:=well_zero 512 (by decide)
 exact ⟨h.good,h.num,zeroB_size 512,fun _=>rfl,by show (-2:Int)≤-1; omega,by show (-1:Int)≤_; omega,fun d x hx=>by cases hx⟩
theorem WN.done (h:WN w0 w C xb wb wc mb nv K zs zs.length) (he:errW zs=0):∃ nb nc,nv=.slice (some ⟨nb,0,none⟩) zs.length nc∧WD w0 w C ⟨xb,wb,wc,nb,nc,mb,.slice none 0 0,.slice none 0 0,K⟩ zs newX 0:=by
 have n1:=(errW_zero he).1
 rcases h.ns.2 with ⟨-,h0⟩|⟨g,cap,cur,e,h2,h3,h4,h5,h6,h7⟩
 ·omega
 ·subst e
  refine ⟨g,cap,rfl,⟨h.bel,h.row,h.ws,fun i hi=>?_,h.nds,⟨_,h.brk,fun a b _ _ l _=>rfl⟩,.inl ⟨rfl,rfl⟩,World.ownsRow_nil _ _ _ _,h.cx,h.cw,h.cn g rfl,h.cm,fun y hy=>(by cases hy),fun y hy=>(by cases hy),h.lt,h.low,⟨he,fun i _=>newN_ni _,fun f hf=>(by cases hf),Nat.zero_le _,Nat.zero_le _⟩⟩⟩
  have:=h.ns.cellAt i (by omega)
  rw [this]
  unfold ptrsTo
  rw [List.getElem?_map,List.getElem?_range hi]
  rfl
def newK (nd s j mb p q:Nat):NB:=⟨nd,s,j,mb,p,q,fun _=>0,fun _=>0,fun _=>0⟩
def addK (K:Nat→NB) (k:Nat) (x:NB):Nat→NB:=fun e=>if e=k then x else K e
theorem WN.add {W4 w5:World} {nd s j mb' p q:Nat} {nv':Value} (h:WN w0 w C xb wb wc mb nv K zs k) (hk:k<7) (hb:Below w.heap.size w W4) (hrow:W4.heap[nd]? = some (.cells #[.pointer (some ⟨s,0,none⟩),.pointer none,.pointer none,.pointer none,.pointer none,.pointer none,.pointer none] 152 (0,0)))
  (hsp:SP w0 W4 s j mb' p q k (fun _=>false) 0 (dealL (zeroB 512).data.toList) false (zeroB 512) (-1)) (hq:w.heap.size≤q) (hqp:q<p) (hpj:p<j) (hjm:j<mb') (hms:mb'<s) (hsn:s<nd)
  (hown:w5.ownsRow w0.heap.size 138 1 nv' (k+1) (ptrsTo K k ++ [.pointer (some ⟨nd,0,none⟩)])) (hg:W4.grownBy w5 nv.ownBlock) (ho:nv'.ownBlock=nv.ownBlock ∨ nv'.ownBlock=some W4.heap.size) :
  ∃ C',WN w0 (w5.setCell ⟨xb,1,none⟩ nv') C' xb wb wc mb nv' (addK K k (newK nd s j mb' p q)) zs (k+1):=by
 have hnd:=row_ltJ hrow
 have hw0:=h.bel.size
 obtain ⟨C1,hC1⟩:∃ C1,C1=paint (paint (paint (paint (paint (paint C q (100 * k+6)) p (100 * k+5)) j (100 * k+3)) mb' (100 * k+4)) s (100 * k+2)) nd (100 * k+1):=⟨_,rfl⟩
 have cnd:C1 nd=100 * k+1:=by rw [hC1,paint_at]
 have cs:C1 s=100 * k+2:=by rw [hC1,paint_ne (by omega),paint_at]
 have cmb:C1 mb'=100 * k+4:=by rw [hC1,paint_ne (by omega),paint_ne (by omega),paint_at]
 have cj:C1 j=100 * k+3:=by rw [hC1,paint_ne (by omega),paint_ne (by omega),paint_ne (by omega),paint_at]
 have cp:C1 p=100 * k+5:=by rw [hC1,paint_ne (by omega),paint_ne (by omega),paint_ne (by omega),paint_ne (by omega),paint_at]
 have cq:C1 q=100 * k+6:=by rw [hC1,paint_ne (by omega),paint_ne (by omega),paint_ne (by omega),paint_ne (by omega),paint_ne (by omega),paint_at]
 have hCo:∀ x,x<w.heap.size→C1 x=C x:=fun x hx=>by rw [hC1,paint_ne (by omega),paint_ne (by omega),paint_ne (by omega),paint_ne (by omega),paint_ne (by omega),paint_ne (by omega)]
 have hcase:∀ x,C1 x<2000→x<w.heap.size ∨ (q≤x∧x≤nd):=fun x hx=>by
  by_cases a1:x=nd
  ·right; omega
  ·by_cases a2:x=s
   ·right; omega
   ·by_cases a3:x=mb'
    ·right; omega
    ·by_cases a4:x=j
     ·right; omega
     ·by_cases a5:x=p
      ·right; omega
      ·by_cases a6:x=q
       ·right; omega
       ·rw [hC1,paint_ne a1,paint_ne a2,paint_ne a3,paint_ne a4,paint_ne a5,paint_ne a6] at hx
        exact .inl (h.lt x hx)
 have h1:=(h.later hb).recolor (C':=C1) (by omega) (fun x hx=>hCo x (h.lt x hx)) (fun x hx=>by have:=hb.size; rcases hcase x hx with g|g <;> omega) (fun x hx=>by
  rcases hcase x hx with g|g
  ·exact h.low x (by rw [← hCo x g]; exact hx)
  ·omega)
 have hN:ND w0 W4 C1 (newK nd s j mb' p q) k zs (newN 512) 0:=⟨hrow,hsp,fun d hd x hx=>(by cases hx),cnd,cs,cj,cmb,cp,cq,fun d hd x hx=>(by cases hx),by show w0.heap.size≤nd; omega⟩
 have hkk:=grown_kept hg
 have cx1:=h1.cx; have cw1:=h1.cw; have cm1:=h1.cm
 obtain ⟨C2,hC2,hlt2,hlow2,hcn2⟩:∃ C2:Nat→Nat,(∀ x,C1 x<2000→C2 x=C1 x)∧(∀ x,C2 x<2000→x<w5.heap.size)∧(∀ x,C2 x<2000→w0.heap.size≤x)∧∀ g,nv'.ownBlock=some g→C2 g=1003:=by
  rcases ho with o|o
  ·refine ⟨C1,fun _ _=>rfl,fun x hx=>Nat.lt_of_lt_of_le (h1.lt x hx) hg.size,h1.low,fun g hgg=>h1.cn g (by rw [← o]; exact hgg)⟩
  ·have hsz:W4.heap.size<w5.heap.size:=own_lt hown o
   refine ⟨paint C1 W4.heap.size 1003,fun x hx=>paint_ne (by have:=h1.lt x hx; omega),fun x hx=>?_,fun x hx=>?_,fun g hgg=>?_⟩
   ·by_cases e:x=W4.heap.size
    ·rw [e]; exact hsz
    ·rw [paint_ne e] at hx; exact Nat.lt_of_lt_of_le (h1.lt x hx) hg.size
   ·by_cases e:x=W4.heap.size
    ·rw [e]; have:=hb.size; omega
    ·rw [paint_ne e] at hx; exact h1.low x hx
   ·rw [o] at hgg
    obtain rfl:=Option.some.inj hgg
    exact paint_at _ _ _
 have hK:Kept (fun x=>nv.ownBlock=some x ∨ x=xb) W4 (w5.setCell ⟨xb,1,none⟩ nv'):=(hkk.mono (fun x hx=>.inl hx)).setCell (.inr rfl) _
 have hS:∀ x,(nv.ownBlock=some x ∨ x=xb)→C1 x=1003 ∨ C1 x=1001:=fun x hx=>by
  rcases hx with hx|rfl
  ·exact .inl (h1.cn x hx)
  ·exact .inr h1.cx
 have nS:∀ x,C1 x≠1003→C1 x≠1001→¬ (nv.ownBlock=some x ∨ x=xb):=fun x n1 n2 hx=>by rcases hS x hx with g|g <;> omega
 have hlow:∀ x,(nv.ownBlock=some x ∨ x=xb)→w0.heap.size≤x:=fun x hx=>h1.low x (by rcases hS x hx with g|g <;> omega)
 have hND:∀ (x:NB) (e:Nat),e≤9→ND w0 W4 C1 x e zs (newN 512) 0→ND w0 (w5.setCell ⟨xb,1,none⟩ nv') C2 x e zs (newN 512) 0:=fun x e he hx=>(hx.kept hK (fun y _ hy=>nS y (by omega) (by omega)) hlow).recolor he hC2
 refine ⟨C2,⟨hK.below h1.bel.size hlow h1.bel,?_,fun e he=>cell_kept (h1.ws e he) hK (nS _ (by show C1 wb≠_; omega) (by show C1 wb≠_; omega)),?_,fun e he=>?_,ownsMap_kept h1.brk hK (nS _ (by omega) (by omega)),(hC2 _ (by omega)).trans cx1,(hC2 _ (by omega)).trans cw1,(hC2 _ (by omega)).trans cm1,hcn2,fun x hx=>?_,hlow2⟩⟩
 ·have hr5:=hkk.row h1.row (fun e=>by have:=h1.cn _ e; omega)
  rw [heap_setCell_same w5 xb 1 _ _ _ hr5]; rfl
 ·have e1:ptrsTo (addK K k (newK nd s j mb' p q)) (k+1)=ptrsTo K k ++ [.pointer (some ⟨nd,0,none⟩)]:=by
   rw [ptrsTo_succ,ptrsTo_same (L:=K) (fun i hi=>by unfold addK; rw [if_neg (by omega)])]
   unfold addK newK
   rw [if_pos rfl]
  rw [e1]
  refine own_kept hown ((Kept.refl (In1 xb) w5).set1 1 nv') (fun y hy e=>?_)
  have h3:=hcn2 y hy
  rw [show y=xb from e,hC2 _ (by omega)] at h3
  omega
 ·by_cases g:e=k
  ·subst g
   have:=hND _ e (by omega) hN
   unfold addK
   rw [if_pos rfl]
   exact this
  ·have:=hND _ e (by omega) (h1.nds e (by omega))
   unfold addK
   rw [if_neg g]
   exact this
 ·have:=hlt2 x hx
  simpa using this
theorem wnew_err (v:Value) (c:Nat) (hv:IsSl w v zs) (hE:Held9 w A) (he:errW zs=c+1) :
  Calls Tryz.prog 98 #[v] w fun e w'=>e=.returned (.tuple #[.pointer none,.iface 318 (.pointer (some (A c)))])∧w'=w:=by
 have HC:Hid (Calls Tryz.prog 153 #[v] w fun e w'=>e=.returned (.iface 318 (.pointer (some (A c))))∧w'=w):=by
  have:=check_any A v zs w hv hE.to3
  rw [he] at this
  exact this
 obtain ⟨a,cap0,rfl,-,-,-⟩:=hv
 clear hE he
 go_enter Tryz.func98,Tryz.ntmps98
 go_wp2_with fail
 refine HC.out.mono ?_
 rintro e w1 ⟨rfl,hx⟩
 subst w1
 go_wp2_with fail
 go_ret2
 exact ⟨rfl,rfl⟩
theorem wpList_append_node {w:World} {ops:Array Oper} {rest:List Oper} {o:Oper} {a:Act} {Q:Exit→Act→World→Prop} (hgd:o.guard=none) (s x:Operand)
  (ho:o.op=.call { callee:=.builtin .append,args:=#[s,x],argTypes:=#[145,145] })
  (base n:Nat) (v:Value) (ad:Addr) (c:Nat) (xs:List Value) (u:Value) (hu1:u.oneCell'=true) (hs:a.eval s=v) (hx:a.eval x=.slice (some ad) 1 c) (hown:w.ownsRow base 138 1 v n xs) (hu:w.cell? (ad.add 0)=some u) (hn:n≤1000000) (hb:base≤w.heap.size)
  (h:∀ ad' cap' w',w'.ownsRow base 138 1 (.slice ad' (n+1) cap') (n+1) (xs ++ [u])→w.grownBy w' v.ownBlock→((Value.slice ad' (n+1) cap').ownBlock=v.ownBlock ∨ (Value.slice ad' (n+1) cap').ownBlock=some w.heap.size)→wpList Tryz.prog ops Q rest (a.put o.dst (.slice ad' (n+1) cap')) w') :
  wpList Tryz.prog ops Q (o :: rest) a w:=by
 obtain ⟨i0,hi0,hz0,hz1,hz2⟩:=info_parts Tryz.infoPN
 refine wpList_append_own_at w hgd s x 145 ho base 138 i0 _ 1 8 Tryz.underlying145 hi0 hz0 hz1 hz2 rfl (by decide) v n xs hs hown ad 1 c [u] hx rfl (fun j y hj=>?_) (fun y hy=>by rw [List.mem_singleton.1 hy]; exact hu1) (by unfold maxLen; omega) (by omega) hb ?_
 ·cases j with
  | zero=>rw [← Option.some.inj hj]; exact hu
  | succ j=>simp at hj
 ·intro v' w' h2 h3 _ h5
  obtain ⟨ad',cap',rfl⟩:∃ ad' cap',v'=.slice ad' (n+1) cap':=by
   rcases h2.2 with ⟨e,h0⟩|⟨g,cap,cur,e,-⟩
   ·omega
   ·exact ⟨_,_,e⟩
  exact h ad' cap' w' h2 h3 h5
theorem wnew_ok (v:Value) (hv:IsSl w v zs) (hE:Held9 w A) (he:errW zs=0) :
  Calls Tryz.prog 98 #[v] w fun e w'=>∃ C X,e=.returned (.tuple #[.pointer (some ⟨X.xb,0,none⟩),.nilIface])∧WD w w' C X zs newX 0:=by
 have hn:=errW_zero he
 have HCk:=hid (check_ok A v zs w hv hE.to3 he)
 have HCl:Hid (Calls Tryz.prog 154 #[v] w fun e w'=>∃ wb wc,e=.returned (.slice (some ⟨wb,0,none⟩) zs.length wc)∧w'.ownsRow w.heap.size 3 1 (.slice (some ⟨wb,0,none⟩) zs.length wc) zs.length (zs.map (Value.int .i64))∧Below w.heap.size w w'):=by
  refine (clone_any v zs w hv hn.1 (by omega)).mono ?_
  rintro e w' ⟨v',he',ho,hb⟩
  obtain ⟨g,cp,rfl,-⟩:=ho.form (by omega)
  exact ⟨g,cp,he',ho,hb⟩
 have HE:=hid hE
 have HZ:=hid he
 obtain ⟨n,hnn⟩:∃ n,Hid (zs.length=n):=⟨_,rfl⟩
 obtain ⟨a,cap0,rfl,hml,-,-⟩:=hv
 have n7:=hn.2.1
 have n1:=hn.1
 have hmm:=@run_makeMap Tryz.prog
 rw [hnn.out] at HCk HCl n7 n1 hml ⊢
 clear hE he hn
 go_enter Tryz.func98,Tryz.ntmps98
 go_wp2_with fail
 refine HCk.out.mono ?_
 rintro e w1 ⟨rfl,hx⟩
 subst w1
 go_wp2_with fail
 refine HCl.out.mono ?_
 rintro e w1 ⟨wb,wc,rfl,ho1,hb1⟩
 have hwb:=(ho1.lt wb rfl)
 obtain ⟨W2,HW2⟩:∃ W2,Hid ((w1.alloc (.map #[] 0)).alloc (.cells #[.slice (some ⟨wb,0,none⟩) n wc,.slice none 0 0,.map (some w1.heap.size),.slice none 0 0,.slice none 0 0] 148)=W2):=⟨_,rfl⟩
 have hW2:=HW2.out
 have HWN:Hid (∃ C,WN w W2 C (w1.heap.size+1) wb wc w1.heap.size (.slice none 0 0) (fun _=>newK 0 0 0 0 0 0) zs 0):=by
  have hb2:Below w1.heap.size w1 W2:=by rw [← HW2.out]; exact ((Below.refl _ _).alloc (Nat.le_refl _) _).alloc (by simp) _
  have hsz:W2.heap.size=w1.heap.size+2:=by rw [← HW2.out]; simp
  obtain ⟨C0,hC0⟩:∃ C0,C0=paint (paint (paint (fun _=>5000) (w1.heap.size+1) 1001) wb 1002) w1.heap.size 1004:=⟨_,rfl⟩
  have k1:C0 (w1.heap.size+1)=1001:=by rw [hC0,paint_ne (by omega),paint_ne (by omega),paint_at]
  have k2:C0 wb=1002:=by rw [hC0,paint_ne (by omega),paint_at]
  have k3:C0 w1.heap.size=1004:=by rw [hC0,paint_at]
  have hcase:∀ x,C0 x<2000→x=w1.heap.size+1 ∨ x=wb ∨ x=w1.heap.size:=fun x hx=>by
   by_cases a1:x=w1.heap.size
   ·exact .inr (.inr a1)
   ·by_cases a2:x=wb
    ·exact .inr (.inl a2)
    ·by_cases a3:x=w1.heap.size+1
     ·exact .inl a3
     ·rw [hC0,paint_ne a1,paint_ne a2,paint_ne a3] at hx; omega
  refine ⟨C0,⟨hb1.trans (hb2.mono hb1.size),?_,fun i hi=>?_,World.ownsRow_nil _ _ _ _,fun i hi=>absurd hi (Nat.not_lt_zero _),?_,k1,k2,k3,fun g hg=>(by cases hg),fun x hx=>?_,fun x hx=>?_⟩⟩
  ·have hs1:(w1.alloc (.map #[] 0)).heap.size=w1.heap.size+1:=by simp
   rw [← HW2.out,← hs1,hnn.out]
   exact heap_alloc_new _ _
  ·have:=ho1.cellAt i (by rw [← hnn.out]; omega)
   rw [Nat.zero_add]
   refine cell_later hb2 (this.trans ?_)
   rw [List.getElem?_map,List.getElem?_eq_getElem hi,getD_lt zs i hi]
   rfl
  ·rw [← HW2.out]
   exact (World.ownsMap_made w1 _ _ _).alloc _
  ·rcases hcase x hx with g|g|g <;> omega
  ·have:=hb1.size
   rcases hcase x hx with g|g|g <;> omega
 have hxlt:w1.heap.size+1<W2.heap.size:=by rw [← HW2.out]; simp
 clear ho1 hb1 hwb
 go_wp2_with fail
 go_loopw [22] (fun v wr=>∃ k:Nat,k≤n∧v=.int .i64 (k:Int)∧∃ C nv K,WN w wr C (w1.heap.size+1) wb wc w1.heap.size nv K zs k) (fun v _=>n - (intOf v).toNat)
 case atStart =>
  obtain ⟨C,hC⟩:=HWN.out
  exact ⟨0,Nat.zero_le _,rfl,C,_,_,hC⟩
 case round =>
  obtain ⟨k,hk,rfl,C,nv,K,hN⟩:=hrel
  have HN:=hid hN
  obtain ⟨ad,cp,hnv⟩:∃ ad cp,Hid (nv=.slice ad k cp):=by
   rcases hN.ns.2 with ⟨e,h0⟩|⟨g,cap,cur,e,-⟩
   ·exact ⟨none,0,by rw [e,h0]; exact rfl⟩
   ·exact ⟨_,_,e⟩
  clear hN
  by_cases hlt:k<n
  ·go_wp2_with fail
   refine (pnew_ok 512 wr (by decide)).mono ?_
   rintro e w3 ⟨rfl,hp3,hb3,hsz3⟩
   have HN3:=hid (HN.out.later hb3)
   have HP3:=hid hp3
   have HB3:=hid hb3
   have HE3:=hid (HE.out.later HN3.out.bel)
   clear hp3 hb3
   go_wp2_with fail
   refine (snew_ok A (k:Int) _ _ _ (-1) w3 HP3.out HE3.out.toE (by rw [zeroB_size]; decide) (by rw [zeroB_size]; decide) (by decide) (by omega) (by omega)).mono ?_
   rintro e w4 ⟨s',j',mb',rfl,hj,hs4,hb4,hj0,hjm,hms⟩
   have HSP:=hid (sp_new (w0:=w) HN3.out.bel HP3.out (by have:=HN.out.bel.size; omega) (HN.out.bel.size) hj hs4 hb4 hj0 hjm hms (by decide) (by decide) (by rw [zeroB_size]; decide) (by rw [zeroB_size]; decide))
   have HN4:=hid (HN3.out.later hb4)
   have c1:w4.cell? ⟨w1.heap.size+1,1,none⟩=some nv:=by rw [cell_of_row _ _ _ _ _ _ HN4.out.row]; rfl
   rw [hnv.out] at c1
   obtain ⟨W5,HW5⟩:∃ W5,Hid (w4.alloc (.cells #[.pointer (some ⟨s',0,none⟩),.pointer none,.pointer none,.pointer none,.pointer none,.pointer none,.pointer none] 152)=W5):=⟨_,rfl⟩
   obtain ⟨W6,HW6⟩:∃ W6,Hid (W5.alloc (.cells #[.pointer (some ⟨w4.heap.size,0,none⟩)] 138)=W6):=⟨_,rfl⟩
   have hs5:W5.heap.size=w4.heap.size+1:=by rw [← HW5.out]; simp
   have HB5:Hid (Below w4.heap.size w4 W5):=by rw [← HW5.out]; exact (Below.refl _ _).alloc (Nat.le_refl _) _
   have HB6:Hid (Below W5.heap.size W5 W6):=by rw [← HW6.out]; exact (Below.refl _ _).alloc (Nat.le_refl _) _
   have HB46:Hid (Below w4.heap.size w4 W6):=HB5.out.trans (HB6.out.mono HB5.out.size)
   have HRn:Hid (W6.heap[w4.heap.size]? = some (.cells #[.pointer (some ⟨s',0,none⟩),.pointer none,.pointer none,.pointer none,.pointer none,.pointer none,.pointer none] 152 (0,0))):=by
    have h5:W5.heap[w4.heap.size]? = some (.cells #[.pointer (some ⟨s',0,none⟩),.pointer none,.pointer none,.pointer none,.pointer none,.pointer none,.pointer none] 152 (0,0)):=by rw [← HW5.out]; exact heap_alloc_new w4 _
    exact (HB6.out.block _ (row_ltJ h5)).trans h5
   have HLt:Hid (W6.cell? ((⟨w4.heap.size+1,0,none⟩:Addr).add 0)=some (.pointer (some ⟨w4.heap.size,0,none⟩))):=by
    rw [addr_add,← hs5,← HW6.out,cell_of_row _ _ _ _ _ _ (heap_alloc_new W5 _)]
    rfl
   have HOw:Hid (W6.ownsRow w.heap.size 138 1 (.slice ad k cp) k (ptrsTo K k)):=by have:=(HN4.out.later HB46.out).ns; rw [hnv.out] at this; exact this
   have HX:Hid (∀ w',W6.grownBy w' (Value.slice ad k cp).ownBlock→w'.cell? ⟨w1.heap.size+1,1,none⟩=some (.slice ad k cp)∧w'.frozen? ⟨w1.heap.size+1,1,none⟩=false):=by
    intro w' hg
    have hr:=(grown_kept hg).row (HN4.out.later HB46.out).row (fun e=>by rw [← hnv.out] at e; have h1:=HN4.out.cn _ e; have h2:=HN4.out.cx; omega)
    exact ⟨by rw [cell_of_row _ _ _ _ _ _ hr,← hnv.out]; rfl,frozen_of_row _ _ _ _ _ hr⟩
   have hb06:w.heap.size≤W6.heap.size:=(HN4.out.later HB46.out).bel.size
   have HBr:Hid (Below wr.heap.size wr W6):=HB3.out.trans ((hb4.trans (HB46.out.mono hb4.size)).mono HB3.out.size)
   have HSP6:=hid (HSP.out.later HB46.out)
   have hsl:=HSP.out.lts
   have hW5:=HW5.out
   have hW6:=HW6.out
   clear hj hs4 hb4
   go_wp2_with (at_builtin; refine wpList_append_node rfl _ _ rfl w.heap.size k (.slice ad k cp) ⟨w4.heap.size+1,0,none⟩ 1 (ptrsTo K k) (.pointer (some ⟨w4.heap.size,0,none⟩)) rfl rfl rfl HOw.out HLt.out (by omega) hb06 ?_; intro ad' cap' w' hown hg ho; obtain ⟨c1',z1'⟩:=HX.out w' hg; have HS:=hid (And.intro hown (And.intro hg ho)); clear hown hg ho)
   go_roundw
   case rel =>
    rw [← hnv.out] at HS
    obtain ⟨C',hC'⟩:=HN.out.add (by omega) HBr.out HRn.out HSP6.out (by omega) (by omega) (by omega) hjm hms hsl.1 HS.out.1 HS.out.2.1 HS.out.2.2
    exact ⟨k+1,by omega,by go_num,C',_,_,hC'⟩
   case measure=>simp [intOf]; omega
  ·obtain rfl:k=n:=by omega
   go_wp2_with fail
   go_ret2
   have hN:=HN.out
   rw [← hnn.out] at hN
   obtain ⟨nb,nc,-,hWD⟩:=hN.done HZ.out
   exact ⟨C,_,rfl,hWD⟩
end
theorem ax_events {zs:List Int} {V:PX} (hA:AX zs V):EvF zs.length V.evs 0 V.evs.length:=by
 refine ⟨fun j hj _=>?_,.inl ⟨rfl,rfl⟩⟩
 obtain ⟨i,d,p,h1,h2,h3,h4,h5⟩:=hA.ex.at_ (V.evs[j]'hj) (List.getElem_mem hj)
 have hpre:∀ q,q∈V.evs.take j→q∈V.evs∧¬ (q.s=(V.evs[j]'hj).s∧q.d=(V.evs[j]'hj).d):=by
  intro q hq
  refine ⟨List.mem_of_mem_take hq,?_⟩
  have hp:=hA.ex.once
  rw [← List.take_append_drop j V.evs,List.pairwise_append] at hp
  exact hp.2.2 q hq _ (by rw [List.drop_eq_getElem_cons hj]; exact List.mem_cons_self)
 obtain ⟨g,hg⟩:=hA.gx d h3
 have hb:bdB zs.length (V.evs[j]'hj)=true:=by rw [h1]; exact decide_eq_true ⟨⟨by simp only; omega,by simp only; omega⟩,⟨by simp only; omega,by simp only; omega⟩,by simp only; omega⟩
 have hs:spB (V.evs.take j) (V.evs[j]'hj)=false:=by
  unfold spB
  rw [List.any_eq_false]
  intro q hq hx
  obtain ⟨x1,x2⟩:=of_decide_eq_true hx
  obtain ⟨i',d',p',g1,g2,g3,g4,g5⟩:=hA.ex.at_ q (hpre q hq).1
  rw [h1,g1] at x1 x2
  simp only at x1 x2
  have ed:d'=d:=by omega
  subst ed
  have s2:=hg.co.s2
  have s3:=hg.co.s3
  rcases h4 with h4|h4 <;> rcases g4 with g4|g4
  ·omega
  ·exact hg.co.split (s2 i h2 (by show (stN (V.nd i) d').ph=2; omega)) (s3 i' g2 (by show (stN (V.nd i') d').ph=3; omega))
  ·exact hg.co.split (s2 i' g2 (by show (stN (V.nd i') d').ph=2; omega)) (s3 i h2 (by show (stN (V.nd i) d').ph=3; omega))
  ·omega
 have hh:heB (V.evs.take j) (V.evs[j]'hj)=false:=by
  unfold heB
  rw [List.any_eq_false]
  intro q hq hx
  obtain ⟨x1,x2⟩:=of_decide_eq_true hx
  exact (hpre q hq).2 ⟨x2,x1⟩
 unfold evC
 rw [if_neg (by rw [hb]; decide),if_neg (by rw [hs]; decide),if_neg (by rw [hh]; decide)]
def cnt (st:Nat→St):Nat→Nat
 | 0=>0
 | k+1=>cnt st k+if finB (st k).ph=true then 1 else 0
theorem cnt_le (st:Nat→St):∀ k,cnt st k≤k
 | 0=>Nat.le_refl _
 | k+1=>by have:=cnt_le st k; unfold cnt; split <;> omega
theorem cnt_same {st st':Nat→St}:∀ {k:Nat},(∀ i,i<k→(st' i).ph=(st i).ph)→cnt st' k=cnt st k
 | 0,_=>rfl
 | k+1,h=>by unfold cnt; rw [cnt_same fun i hi=>h i (by omega),h k (by omega)]
theorem cnt_upd (st:Nat→St) (i:Nat) (t:St):∀ k,i<k→cnt (upd st i t) k+(if finB (st i).ph=true then 1 else 0)=cnt st k+if finB t.ph=true then 1 else 0
 | 0,h=>absurd h (Nat.not_lt_zero _)
 | k+1,h=>by
  unfold cnt
  by_cases e:i=k
  ·subst e
   rw [upd_at,cnt_same (st:=st) fun j hj=>by rw [upd_ne _ _ _ (by omega)]]
   omega
  ·have:=cnt_upd st i t k (by omega)
   rw [upd_ne _ _ _ (by omega:k≠i)]
   omega
structure CW (zs:List Int) (d s p:Nat) (rf:Nat→Bool) (V:PX) (m:Nat) (st:Nat→St) (P:PL) (fly:List F9):Prop where
 xi:XI zs V m
 l:∀ i,i<zs.length→(V.nd i).l=-1
 r:∀ i,i<zs.length→(V.nd i).R d=rf i
 ec:V.evs.length=cnt st zs.length
 ev:∀ e,e∈V.evs→e.d=(d:Int)∧e.p=(p:Int)
 st:∀ i,i<zs.length→stN (V.nd i) d=st i
 ld:(V.nd s).ld d=some (0,P)
 br:∀ a b,V.br a b=false
 fly:V.fly=fly
section
variable {zs:List Int} {d s p m:Nat} {rf:Nat→Bool} {V:PX} {st:Nat→St} {P:PL} {rest:List F9} {f:F9}
theorem CW.reach (h:CW zs d s p rf V m st P (f :: rest)) (hi:f.t.toNat<zs.length):reachB V f=true:=by
 unfold reachB brX upN
 rw [h.l _ hi,h.br]
 simp
theorem CW.take (h:CW zs d s p rf V m st P (f :: rest)):(takeX V 0).fly=rest:=by
 show V.fly.eraseIdx 0=rest
 rw [h.fly]
 rfl
theorem CW.site (h:CW zs d s p rf V m st P (f :: rest)) (hm:m<1000000) (hd:f.d=(d:Int)) {i:Nat} (ht:f.t=(i:Int)) (hi:i<zs.length) (hk:isAns f.k=false)
  (hfin:finB (hearL (st i) (rf i) f.k.toNat f.a.toNat f.ph.toNat).st.ph=true→(hearL (st i) (rf i) f.k.toNat f.a.toNat f.ph.toNat).st.ph=p) :
  CW zs d s p rf (deliverX zs V 0 f) (m+2) (upd st i (hearL (st i) (rf i) f.k.toNat f.a.toNat f.ph.toNat).st) P (rest ++ (if (hearL (st i) (rf i) f.k.toNat f.a.toNat f.ph.toNat).k≠0 then [ansF i f (hearL (st i) (rf i) f.k.toNat f.a.toNat f.ph.toNat)] else [])):=by
 have hti:f.t.toNat=i:=by rw [ht]; exact Int.toNat_natCast i
 have hdi:f.d.toNat=d:=by rw [hd]; exact Int.toNat_natCast d
 have hmem:f∈V.fly:=by rw [h.fly]; exact List.mem_cons_self
 have hF:=h.xi.fr f hmem
 have hX1:XI zs (takeX V 0) m:=h.xi.take
 have hu:((takeX V 0).nd i).l≠-2:=by show (V.nd i).l≠-2; rw [h.l i hi]; decide
 have hh:=hearN_hf (hX1.nd i hi) hu hF (by omega)
 have hsti:stN ((takeX V 0).nd i) f.d.toNat=st i:=by rw [hdi]; exact h.st i hi
 have hg:gHN ((takeX V 0).nd i) f=hearL (st i) (rf i) f.k.toNat f.a.toNat f.ph.toNat:=by
  unfold gHN
  rw [hsti,hdi,show ((takeX V 0).nd i).R d=rf i from h.r i hi]
 have hNI:=hX1.nd i hi
 have hfree:=put_free (B:=((takeX V 0).nd i).B) (d:=d) (s:=(hearL (st i) (rf i) f.k.toNat f.a.toNat f.ph.toNat).st) (by have:=hNI.sz; omega) (by have:=hF.ok.2.2.1; omega) (by have:=hNI.nm d (by have:=hF.ok.2.2.1; omega); have h2:(dealL ((takeX V 0).nd i).B.data.toList d).1≤m:=this; omega)
 have hov:((takeX V 0).nd i).over=false:=hNI.up hu
 have hl1:((takeX V 0).nd i).l=-1:=h.l i hi
 have hgood:=hh.good
 rw [hg] at hgood
 have hput:oHN ((takeX V 0).nd i) f=putIn (dealL ((takeX V 0).nd i).B.data.toList) ((takeX V 0).nd i).B (-1) d (hearL (st i) (rf i) f.k.toNat f.a.toNat f.ph.toNat).st:=by
  unfold oHN
  rw [hg,hov,hl1,hdi]
  unfold pOut
  rw [if_neg (by decide),if_pos ⟨by have:=hF.ok.2.2.1; omega,good_fits hgood⟩]
  simp only [Int.toNat_natCast]
  rfl
 have hc:(oHN ((takeX V 0).nd i) f).c=0:=by rw [hput]; exact hfree.1
 have hlo:(oHN ((takeX V 0).nd i) f).l=-1:=by rw [hput]; exact hfree.2
 have hN:hearN ((takeX V 0).nd i) f={ (takeX V 0).nd i with B:=(oHN ((takeX V 0).nd i) f).b,l:=(oHN ((takeX V 0).nd i) f).l,over:=(oHN ((takeX V 0).nd i) f).over }:=by
  unfold hearN
  rw [if_neg (by omega)]
 have hans:ansN i ((takeX V 0).nd i) f=if (hearL (st i) (rf i) f.k.toNat f.a.toNat f.ph.toNat).k≠0 then [ansF i f (hearL (st i) (rf i) f.k.toNat f.a.toNat f.ph.toNat)] else []:=by
  unfold ansN
  rw [hg]
  by_cases hk0:(hearL (st i) (rf i) f.k.toNat f.a.toNat f.ph.toNat).k≠0
  ·rw [if_pos ⟨hc,hk0⟩,if_pos hk0]
   rfl
  ·rw [if_neg (fun x=>hk0 x.2),if_neg hk0]
 have hdel:deliverX zs V 0 f=sendX (hearX (takeX V 0) i f) (ansN i ((takeX V 0).nd i) f):=by
  unfold deliverX arriveX arriveO
  rw [if_pos (h.reach (by omega)),if_neg (by rw [hk]; decide),if_neg (by rw [hk]; decide),hti]
 have hsd:∀ k,k<zs.length→stN ((hearX (takeX V 0) i f).nd k) d=upd st i (hearL (st i) (rf i) f.k.toNat f.a.toNat f.ph.toNat).st k:=by
  intro k hk
  have:=congrFun (hearX_st (V:=takeX V 0) (i:=i) hh hc) k
  rw [hdi] at this
  have h2:stN ((hearX (takeX V 0) i f).nd k) d=upd (stD (takeX V 0) d) i (gHN ((takeX V 0).nd i) f).st k:=this
  rw [h2,hg]
  unfold upd
  split
  ·rfl
  ·exact h.st k hk
 have hXh:=hX1.hear hu hF (by omega) hi
 have hfi:∀ x,x∈ansN i ((takeX V 0).nd i) f→FI zs.length x:=ansN_fi (hX1.nd i hi) hu hF (by omega) (by rw [ht])
 have hXs:=XI.send hXh hfi (by rw [hans]; split <;> simp)
 rw [hdel,← hans]
 have hmay:=hh.may
 rw [hsti,hg] at hmay
 have hev:(hearX (takeX V 0) i f).evs=noteE V.evs i d (st i).ph (hearL (st i) (rf i) f.k.toNat f.a.toNat f.ph.toNat).st.ph:=by
  show noteE V.evs i f.d.toNat (stN ((takeX V 0).nd i) f.d.toNat).ph (stN (hearN ((takeX V 0).nd i) f) f.d.toNat).ph=_
  rw [hsti,hh.yes hc,hg,hdi]
 have hcu:=cnt_upd st i (hearL (st i) (rf i) f.k.toNat f.a.toNat f.ph.toNat).st zs.length hi
 have hcl:=cnt_le st zs.length
 have n7:=(errW_zero h.xi.he).2.1
 have hWl:∀ k,k<zs.length→((hearX (takeX V 0) i f).nd k).l=-1:=by
  intro k hk
  show ((setNd (takeX V 0) i (hearN ((takeX V 0).nd i) f)).nd k).l=-1
  by_cases e:k=i
  ·subst e; rw [nd_at,hN]; exact hlo
  ·rw [nd_ne _ _ _ e]; exact h.l k hk
 have hWr:∀ k,k<zs.length→((hearX (takeX V 0) i f).nd k).R d=rf k:=by
  intro k hk
  show ((setNd (takeX V 0) i (hearN ((takeX V 0).nd i) f)).nd k).R d=rf k
  by_cases e:k=i
  ·subst e; rw [nd_at,hN]; exact h.r k hk
  ·rw [nd_ne _ _ _ e]; exact h.r k hk
 have hWd:((hearX (takeX V 0) i f).nd s).ld d=some (0,P):=by
  show ((setNd (takeX V 0) i (hearN ((takeX V 0).nd i) f)).nd s).ld d=some (0,P)
  by_cases e:s=i
  ·subst e; rw [nd_at,hN]; exact h.ld
  ·rw [nd_ne _ _ _ e]; exact h.ld
 have hWb:∀ a b,(hearX (takeX V 0) i f).br a b=false:=h.br
 have hWf:(hearX (takeX V 0) i f).fly=rest:=h.take
 generalize hearX (takeX V 0) i f=W at *
 generalize ansN i ((takeX V 0).nd i) f=L at *
 clear hN hput hh hfree hXh hfi hdel hNI
 generalize hO:(hearL (st i) (rf i) f.k.toNat f.a.toNat f.ph.toNat).st=o at *
 have hlen:W.evs.length=cnt (upd st i o) zs.length:=by
  rw [hev]
  unfold noteE
  have hec:=h.ec
  unfold mayN at hmay
  split
  ·rename_i hcnd
   have hf2:finB (st i).ph=false:=by
    refine decide_eq_false fun x=>hcnd.1 ?_
    omega
   rw [if_neg (by rw [hf2]; decide),if_pos hcnd.2.1] at hcu
   rw [List.length_append,List.length_singleton]
   omega
  ·rename_i hcnd
   by_cases hof:finB o.ph=true
   ·have heq:o.ph=(st i).ph:=by
     refine Classical.byContradiction fun x=>hcnd ⟨x,hof,?_⟩
     omega
    rw [← heq,if_pos hof] at hcu
    omega
   ·have hof2:finB (st i).ph=false:=by
     refine decide_eq_false fun x=>hof (decide_eq_true ?_)
     omega
    rw [if_neg hof,if_neg (by rw [hof2]; decide)] at hcu
    omega
 have hevs:∀ e,e∈W.evs→e.d=(d:Int)∧e.p=(p:Int):=by
  intro e he
  rw [hev] at he
  unfold noteE at he
  split at he
  ·rename_i hcnd
   rcases List.mem_append.1 he with x|x
   ·exact h.ev e x
   ·rw [List.mem_singleton] at x
    subst x
    exact ⟨rfl,by show (o.ph:Int)=p; rw [hfin hcnd.2.1]⟩
  ·exact h.ev e he
 exact ⟨hXs,hWl,hWr,hlen,hevs,hsd,hWd,hWb,by show W.fly ++ L=rest ++ L; rw [hWf]⟩
theorem CW.lead (h:CW zs d s p rf V m st P (f :: rest)) (hd:f.d=(d:Int)) (ht:f.t=(s:Int)) (hs:s<zs.length) (hk:isAns f.k=true) :
  CW zs d s p rf (deliverX zs V 0 f) (m+1) st (phear zs s d 0 P f).1 (rest ++ outL s d 0 zs.length (phear zs s d 0 P f).2):=by
 have hti:f.t.toNat=s:=by rw [ht]; exact Int.toNat_natCast s
 have hdi:f.d.toNat=d:=by rw [hd]; exact Int.toNat_natCast d
 have hmem:f∈V.fly:=by rw [h.fly]; exact List.mem_cons_self
 have hF:=h.xi.fr f hmem
 have hX1:XI zs (takeX V 0) m:=h.xi.take
 have hx:((takeX V 0).nd s).ld d=some (0,P):=h.ld
 have hdel:deliverX zs V 0 f=sendX (leadX zs (takeX V 0) s d f) (leadO zs (takeX V 0) s d f):=by
  unfold deliverX arriveX arriveO
  rw [if_pos (h.reach (by omega)),if_pos hk,if_pos hk,hti,hdi]
 have hXl:=hX1.lead hF hs (d:=d) (by have:=hF.ok.2.2.1; omega)
 rw [hdel]
 have e1:=(leadX_some (zs:=zs) (f:=f) hx).1
 have e2:=(leadX_some (zs:=zs) (f:=f) hx).2
 rw [e1,e2] at hXl ⊢
 generalize (phear zs s d 0 P f).1=Q at *
 have keep:∀ k,(setNd (takeX V 0) s (setLd ((takeX V 0).nd s) d (0,Q))).nd k=if k=s then setLd (V.nd s) d (0,Q) else V.nd k:=fun _=>rfl
 refine ⟨hXl,fun k hk=>?_,fun k hk=>?_,h.ec,h.ev,fun k hk=>?_,?_,h.br,?_⟩
 ·show ((setNd (takeX V 0) s (setLd ((takeX V 0).nd s) d (0,Q))).nd k).l=-1
  rw [keep]
  split
  ·exact h.l s hs
  ·exact h.l k hk
 ·show ((setNd (takeX V 0) s (setLd ((takeX V 0).nd s) d (0,Q))).nd k).R d=rf k
  rw [keep]
  split
  ·rename_i e; rw [e]; exact h.r s hs
  ·exact h.r k hk
 ·show stN ((setNd (takeX V 0) s (setLd ((takeX V 0).nd s) d (0,Q))).nd k) d=st k
  rw [keep]
  split
  ·rename_i e; rw [e]; exact h.st s hs
  ·exact h.st k hk
 ·show ((setNd (takeX V 0) s (setLd ((takeX V 0).nd s) d (0,Q))).nd s).ld d=_
  rw [nd_at,ld_at]
 ·show (takeX V 0).fly ++ _=_
  rw [h.take]
end
def frsL (g:Nat→F9) (k:Nat):List F9:=(List.range k).map g
def sufL (g:Nat→F9) (k n:Nat):List F9:=((List.range n).map g).drop k
theorem frsL_succ (g:Nat→F9) (k:Nat):frsL g (k+1)=frsL g k ++ [g k]:=by simp [frsL,List.range_succ]
theorem toL_frs (id:Nat) (deal kind att ph:Int):∀ n,toL id deal kind att ph n=frsL (fun k=>⟨id,k,deal,kind,att,false,ph,0,0⟩) n
 | 0=>rfl
 | n+1=>by rw [toL,toL_frs id deal kind att ph n,frsL_succ]
section
variable {zs:List Int} {d s p m:Nat} {rf:Nat→Bool} {V:PX} {st:Nat→St} {P:PL}
def askF (s d:Nat) (i:Nat):F9:=⟨s,i,d,1,0,false,0,0,0⟩
def votF (s d:Nat) (rf:Nat→Bool) (i:Nat):F9:=⟨i,s,d,2,0,!rf i,if rf i=true then 3 else 1,0,0⟩
end
theorem stN_fresh (i d:Nat) (hd:d<6):stN (newX.nd i) d=⟨0,0,0⟩:=by
 show (dealL (zeroB 512).data.toList d).2=_
 rw [deal_zero 512 d (by omega)]
 rfl
structure RfI (zs:List Int) (V:PX) (d:Nat) (rf:Nat→Bool):Prop where
 l:∀ i,i<zs.length→(V.nd i).l=-1
 r:∀ i,i<zs.length→(V.nd i).R d=rf i
 st:∀ i,i<zs.length→stN (V.nd i) d=⟨0,0,0⟩
 ld:∀ i,i<zs.length→(V.nd i).ld d=none
 br:∀ a b,V.br a b=false
 fly:V.fly=[]
 evs:V.evs=[]
section
variable {zs:List Int} {V:PX} {d s:Nat} {rf:Nat→Bool} {m:Nat}
theorem RfI.new (hd:d<6):RfI zs newX d (fun _=>false):=⟨fun _ _=>rfl,fun _ _=>rfl,fun i _=>stN_fresh i d hd,fun _ _=>rfl,fun _ _=>rfl,rfl,rfl⟩
theorem RfI.up (h:RfI zs V d rf) {i:Nat} (hi:i<zs.length):upN (V.nd i)=true:=by
 unfold upN; rw [h.l i hi]; rfl
theorem RfI.beg (h:RfI zs V d rf) (hs:s<zs.length) (hd:d<6):cBeg zs.length V (s:Int) (d:Int)=0:=by
 unfold cBeg
 rw [if_pos ⟨⟨by omega,by omega⟩,by omega,by omega⟩,Int.toNat_natCast,Int.toNat_natCast,if_pos (h.up hs),if_neg ?_]
 unfold heldX
 rw [Bool.not_eq_true,List.any_eq_false]
 intro i hi
 have hin:i<zs.length:=List.mem_range.1 hi
 rw [h.ld i hin,h.st i hin]
 decide
theorem RfI.cw (h:RfI zs V d rf) (hX:XI zs (beginX zs V s d) m) (p:Nat):CW zs d s p rf (beginX zs V s d) m (fun _=>⟨0,0,0⟩) P0 (sufL (askF s d) 0 zs.length ++ frsL (votF s d rf) 0):=by
 have keep:∀ i,(beginX zs V s d).nd i=if i=s then setLd (V.nd s) d (0,P0) else V.nd i:=fun _=>rfl
 refine ⟨hX,fun i hi=>?_,fun i hi=>?_,?_,fun e he=>?_,fun i hi=>?_,?_,h.br,?_⟩
 ·rw [keep]; split
  ·rename_i e; subst e; exact h.l i hi
  ·exact h.l i hi
 ·rw [keep]; split
  ·rename_i e; subst e; exact h.r i hi
  ·exact h.r i hi
 ·show V.evs.length=_
  rw [h.evs]
  have:∀ k,cnt (fun _=>⟨0,0,0⟩) k=0:=by
   intro k
   induction k with
   | zero=>rfl
   | succ k ih=>unfold cnt; rw [ih]; rfl
  exact (this _).symm
 ·have he2:e∈V.evs:=he
  rw [h.evs] at he2
  cases he2
 ·rw [keep]; split
  ·rename_i e; subst e; exact h.st i hi
  ·exact h.st i hi
 ·rw [keep,if_pos rfl,ld_at]
 ·show V.fly ++ toL s d 1 0 0 zs.length=_
  rw [h.fly,toL_frs,List.nil_append]
  show _=frsL (askF s d) zs.length ++ []
  rw [List.append_nil]
  rfl
end
end Go.Proofs.YtaehdgemkafinaaGreatDoor
