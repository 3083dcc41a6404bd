/-
  On the way to SAnewProof: YR YY GA N4 YL.
-/
import Derived.Test.YtaehdgemkafinaaGreatDoorBv38
import Derived.Test.YtaehdgemkafinaaGreatDoorBv20
set_option maxHeartbeats 8000000
set_option maxRecDepth 100000
namespace Go.Proofs.YtaehdgemkafinaaGreatDoor
open Go.RowKit
def wtF (f:F9):Nat:=if f.k=1 ∨ f.k=3 ∨ f.k=5 then 2 else 1
def wtL (L:List F9):Nat:=(L.map wtF).sum
def potL (n:Nat):Option (Int×PL)→Nat
 | none=>0
 | some y=>if y.2.stt=0 then 3 * n else if y.2.stt=1 then n else 0
def sumN (g:Nat→Nat):Nat→Nat
 | 0=>0
 | k+1=>sumN g k+g k
theorem sumN_le {g h:Nat→Nat}:∀ {k:Nat},(∀ i,i<k→g i≤h i)→sumN g k≤sumN h k
 | 0,_=>Nat.le_refl _
 | k+1,hl=>Nat.add_le_add (sumN_le fun i hi=>hl i (by omega)) (hl k (by omega))
theorem sumN_one {g h:Nat→Nat} {j a b:Nat}:∀ {k:Nat},j<k→(∀ i,i<k→i≠j→g i≤h i)→g j+a≤h j+b→sumN g k+a≤sumN h k+b
 | 0,hj,_,_=>absurd hj (Nat.not_lt_zero _)
 | k+1,hj,hl,hab=>by
  show sumN g k+g k+a≤sumN h k+h k+b
  by_cases e:j=k
  ·subst e
   have:=sumN_le (g:=g) (h:=h) (k:=j) fun i hi=>hl i (by omega) (by omega)
   omega
  ·have h1:=sumN_one (k:=k) (by omega) (fun i hi hne=>hl i (by omega) hne) hab
   have h2:=hl k (by omega) (fun q=>e q.symm)
   omega
def potN (n:Nat) (N:PN):Nat:=sumN (fun d=>potL n (N.ld d)) 6
def pot (zs:List Int) (V:PX):Nat:=wtL V.fly+sumN (fun i=>potN zs.length (V.nd i)) zs.length
theorem wtL_append (L M:List F9):wtL (L ++ M)=wtL L+wtL M:=by simp [wtL]
theorem wtL_erase:∀ (L:List F9) (k:Nat) (f:F9),L[k]? = some f→wtL (L.eraseIdx k)+wtF f=wtL L
 | [],_,_,h=>by simp at h
 | g :: r,0,f,h=>by
  obtain rfl:g=f:=by simpa using h
  simp [wtL]
  omega
 | g :: r,k+1,f,h=>by
  have:=wtL_erase r k f (by simpa using h)
  simp [wtL] at this ⊢
  omega
theorem wtL_to (id:Nat) (deal kind att ph:Int) (n:Nat):wtL (toL id deal kind att ph n)=n * (if kind=1 ∨ kind=3 ∨ kind=5 then 2 else 1):=by
 induction n with
 | zero=>simp [toL,wtL]
 | succ n ih =>
  rw [toL,wtL_append,ih,Nat.succ_mul]
  rfl
section
variable {zs:List Int} {V:PX} {m:Nat}
theorem pot_lead {i:Nat} {d att:Int} {P:PL} {f:F9} (n:Nat) (hn:zs.length=n):potL n (some (att,(phear zs i d att P f).1))+wtL (outL i d att n (phear zs i d att P f).2)≤potL n (some (att,P)):=by
 have key:∀ x:PL×Option (Int×Int),(x.2=none∧(x.1.stt=P.stt ∨ 2≤x.1.stt)) ∨ (∃ p,x.2=some (7,p)∧x.1.stt=2∧P.stt≤1) ∨ (∃ p,x.2=some (5,p)∧x.1.stt=1∧P.stt=0)→potL n (some (att,x.1))+wtL (outL i d att n x.2)≤potL n (some (att,P)):=by
  rintro ⟨Q,o⟩ (⟨h1,h2⟩|⟨p,h1,h2,h3⟩|⟨p,h1,h2,h3⟩)
  ·simp only at h1 h2
   subst h1
   show potL n (some (att,Q))+0≤_
   unfold potL
   simp only
   rcases h2 with h2|h2
   ·rw [h2]; exact Nat.le_refl _
   ·rw [if_neg (by omega),if_neg (by omega)]; exact Nat.zero_le _
  ·simp only at h1 h2
   subst h1
   show potL n (some (att,Q))+wtL (toL i d 7 att p n)≤_
   rw [wtL_to,if_neg (by decide)]
   unfold potL
   simp only
   rw [h2,if_neg (by decide),if_neg (by decide)]
   have:P.stt=0 ∨ P.stt=1:=by omega
   rcases this with e|e <;> rw [e] <;> simp <;> omega
  ·simp only at h1 h2
   subst h1
   show potL n (some (att,Q))+wtL (toL i d 5 att p n)≤_
   rw [wtL_to,if_pos (by decide)]
   unfold potL
   simp only
   rw [h2,h3,if_neg (by decide),if_pos rfl,if_pos rfl]
   omega
 refine key _ ?_
 unfold phear
 by_cases ht:takesB zs.length i d att P f=true
 ·rw [if_pos ht]
  obtain ⟨-,hw,-,-⟩:=takesB_in ht
  obtain ⟨q1,-,-,-⟩:=seeP_of (noteP P f) f.pr
  have q1':(seeP (noteP P f) f.pr).stt=P.stt:=q1
  unfold takenP
  rcases waitsY hw with ⟨e1,e2,-⟩|⟨e1,e2,-⟩|⟨e1,e2⟩
  ·rw [if_pos e1]
   unfold voteP
   split
   ·exact .inr (.inl ⟨3,rfl,rfl,by omega⟩)
   ·split
    ·exact .inr (.inr ⟨4,rfl,rfl,e2⟩)
    ·exact .inl ⟨rfl,.inl rfl⟩
  ·rw [if_neg (by omega)]
   split
   ·exact .inl ⟨rfl,.inr (by show 2≤3; decide)⟩
   ·first|rw [if_pos e1]|skip
    unfold tellP
    split
    ·exact .inl ⟨rfl,.inl q1'⟩
    ·split
     ·exact .inr (.inl ⟨_,rfl,rfl,by omega⟩)
     ·exact .inr (.inr ⟨_,rfl,rfl,e2⟩)
  ·rw [if_neg (by omega)]
   split
   ·exact .inl ⟨rfl,.inr (by show 2≤3; decide)⟩
   ·first|rw [if_neg (show ¬ f.k=4 by omega)]|skip
    unfold ackP
    split
    ·exact .inl ⟨rfl,.inl q1'⟩
    ·exact .inr (.inl ⟨_,rfl,rfl,by omega⟩)
 ·rw [if_neg ht]
  exact .inl ⟨rfl,.inl rfl⟩
theorem wtF_pos (f:F9):1≤wtF f:=by unfold wtF; split <;> omega
theorem pot_ans {i:Nat} {N:PN} {f:F9}:wtL (ansN i N f)+1≤wtF f:=by
 unfold ansN
 split
 ·rename_i hc
  have hk:=hc.2
  have h7:∀ s r k a p,(hearL s r k a p).k≠0→(k=1∧(hearL s r k a p).k=2) ∨ (k=3∧(hearL s r k a p).k=4) ∨ (k=5∧(hearL s r k a p).k=6):=by
   intro s r k a p
   unfold hearL
   repeat' split
   all_goals simp
   all_goals assumption
  have:=h7 _ _ _ _ _ hk
  have hw:wtF f=2:=by
   unfold wtF
   rw [if_pos]
   omega
  have hz:∀ a b c:Int,∀ y:Bool,∀ p q r:Int,((gHN N f).k=2 ∨ (gHN N f).k=4 ∨ (gHN N f).k=6)→wtL [⟨a,b,c,(gHN N f).k,f.a,y,p,q,r⟩]=1:=by
   intro a b c y p q r h
   show wtF ⟨a,b,c,(gHN N f).k,f.a,y,p,q,r⟩+0=1
   unfold wtF
   rw [if_neg]
   show ¬ (((gHN N f).k:Int)=1 ∨ ((gHN N f).k:Int)=3 ∨ ((gHN N f).k:Int)=5)
   omega
  rw [hz _ _ _ _ _ _ _ (by rcases this with x|x|x; exact .inl x.2; exact .inr (.inl x.2); exact .inr (.inr x.2)),hw]
  exact Nat.le_refl _
 ·have:=wtF_pos f
  show 0+1≤_
  omega
theorem pot_hear (N:PN) (f:F9) (n:Nat):potN n (hearN N f)≤potN n N:=by
 unfold potN
 refine sumN_le fun d _=>?_
 unfold hearN
 split
 ·exact Nat.zero_le _
 ·exact Nat.le_refl _
theorem pot_deliver {k:Nat} {f:F9} (hX:XI zs V m) (hk:V.fly[k]? = some f):pot zs (deliverX zs V k f)+1≤pot zs V:=by
 have hf:f∈V.fly:=List.mem_iff_getElem?.2 ⟨k,hk⟩
 have hF:=hX.fr f hf
 have ht:f.t.toNat<zs.length:=by have:=hF.t0; have:=hF.t1; omega
 have hd6:0≤f.d∧f.d≤5:=hF.ok.2.2.1
 have hw:=wtL_erase V.fly k f hk
 have hp:=wtF_pos f
 unfold deliverX
 split
 ·unfold arriveX arriveO
  split
  ·cases hx:((takeX V k).nd f.t.toNat).ld f.d.toNat with
   | none =>
    rw [(leadX_none hx).1,(leadX_none hx).2,sendX_nil]
    show wtL (V.fly.eraseIdx k)+sumN (fun i=>potN zs.length (V.nd i)) zs.length+1≤wtL V.fly+sumN (fun i=>potN zs.length (V.nd i)) zs.length
    omega
   | some x =>
    rw [(leadX_some hx).1,(leadX_some hx).2]
    have hl:=pot_lead (zs:=zs) (i:=f.t.toNat) (d:=(f.d.toNat:Int)) (att:=x.1) (P:=x.2) (f:=f) zs.length rfl
    show wtL (V.fly.eraseIdx k ++ outL f.t.toNat f.d.toNat x.1 zs.length (phear zs f.t.toNat f.d.toNat x.1 x.2 f).2)+sumN (fun i=>potN zs.length ((setNd (takeX V k) f.t.toNat (setLd ((takeX V k).nd f.t.toNat) f.d.toNat (x.1,(phear zs f.t.toNat f.d.toNat x.1 x.2 f).1))).nd i)) zs.length+1≤wtL V.fly+sumN (fun i=>potN zs.length (V.nd i)) zs.length
    rw [wtL_append]
    generalize (phear zs f.t.toNat f.d.toNat x.1 x.2 f)=R at *
    have hs:=sumN_one (g:=fun i=>potN zs.length ((setNd (takeX V k) f.t.toNat (setLd ((takeX V k).nd f.t.toNat) f.d.toNat (x.1,R.1))).nd i)) (h:=fun i=>potN zs.length (V.nd i)) (j:=f.t.toNat) (a:=wtL (outL f.t.toNat f.d.toNat x.1 zs.length R.2)) (b:=0) ht
     (fun i _ hne=>by show potN _ _≤potN _ _; rw [nd_ne _ _ _ hne]; exact Nat.le_refl _) (by
      show potN zs.length ((setNd (takeX V k) f.t.toNat (setLd ((takeX V k).nd f.t.toNat) f.d.toNat (x.1,R.1))).nd f.t.toNat)+_≤potN zs.length (V.nd f.t.toNat)+0
      rw [nd_at]
      unfold potN
      refine sumN_one (j:=f.d.toNat) (by omega) (fun e _ hne=>by show potL _ _≤potL _ _; rw [ld_ne _ _ _ hne]; exact Nat.le_refl _) ?_
      show potL zs.length ((setLd ((takeX V k).nd f.t.toNat) f.d.toNat (x.1,R.1)).ld f.d.toNat)+_≤potL zs.length ((V.nd f.t.toNat).ld f.d.toNat)+0
      rw [ld_at,show (V.nd f.t.toNat).ld f.d.toNat=some x from hx]
      exact hl)
    omega
  ·have ha:=pot_ans (i:=f.t.toNat) (N:=(takeX V k).nd f.t.toNat) (f:=f)
   show wtL (V.fly.eraseIdx k ++ ansN f.t.toNat ((takeX V k).nd f.t.toNat) f)+sumN (fun i=>potN zs.length ((setNd (takeX V k) f.t.toNat (hearN ((takeX V k).nd f.t.toNat) f)).nd i)) zs.length+1≤wtL V.fly+sumN (fun i=>potN zs.length (V.nd i)) zs.length
   rw [wtL_append]
   have hs:=sumN_le (g:=fun i=>potN zs.length ((setNd (takeX V k) f.t.toNat (hearN ((takeX V k).nd f.t.toNat) f)).nd i)) (h:=fun i=>potN zs.length (V.nd i)) (k:=zs.length) (fun i _=>by
    show potN _ _≤potN _ _
    by_cases e:i=f.t.toNat
    ·subst e; rw [nd_at]; exact pot_hear _ _ _
    ·rw [nd_ne _ _ _ e]; exact Nat.le_refl _)
   omega
 ·show wtL (V.fly.eraseIdx k)+sumN (fun i=>potN zs.length (V.nd i)) zs.length+1≤wtL V.fly+sumN (fun i=>potN zs.length (V.nd i)) zs.length
  omega
end
section
variable {zs:List Int} {V V':PX} {m:Nat}
theorem pot_send (L:List F9):pot zs (sendX V L)=pot zs V+wtL L:=by
 show wtL (V.fly ++ L)+_=wtL V.fly+_+_
 rw [wtL_append]
 show wtL V.fly+wtL L+sumN (fun i=>potN zs.length (V.nd i)) zs.length=_
 omega
theorem sumN_set {g h:Nat→Nat} {j c:Nat} (hl:∀ i,i≠j→g i≤h i) (hj:g j≤h j+c):∀ k,sumN g k≤sumN h k+c:=fun k=>by
 by_cases e:j<k
 ·have:=sumN_one (g:=g) (h:=h) (j:=j) (a:=0) (b:=c) (k:=k) e (fun i _ hne=>hl i hne) (by omega)
  omega
 ·have:=sumN_le (g:=g) (h:=h) (k:=k) fun i hi=>hl i (by omega)
  omega
theorem pot_node {i c:Nat} {N:PN} (h:potN zs.length N≤potN zs.length (V.nd i)+c):pot zs (setNd V i N)≤pot zs V+c:=by
 show wtL V.fly+sumN (fun k=>potN zs.length ((setNd V i N).nd k)) zs.length≤wtL V.fly+sumN (fun k=>potN zs.length (V.nd k)) zs.length+c
 have:=sumN_set (g:=fun k=>potN zs.length ((setNd V i N).nd k)) (h:=fun k=>potN zs.length (V.nd k)) (j:=i) (c:=c) (fun k hk=>by show potN _ _≤potN _ _; rw [nd_ne _ _ _ hk]; exact Nat.le_refl _) (by show potN _ _≤potN _ _+c; rw [nd_at]; exact h) zs.length
 omega
theorem pot_hearX (i:Nat) (f:F9):pot zs (hearX V i f)≤pot zs V :=
 pot_node (V:=V) (i:=i) (c:=0) (N:=hearN (V.nd i) f) (pot_hear _ _ _)
theorem pot_setLd (n:Nat) (N:PN) (d:Nat) (x:Int×PL):potN n (setLd N d x)≤potN n N+potL n (some x):=by
 unfold potN
 refine sumN_set (j:=d) (fun i hi=>?_) ?_ 6
 ·show potL n ((setLd N d x).ld i)≤_
  rw [ld_ne _ _ _ hi]; exact Nat.le_refl _
 ·show potL n ((setLd N d x).ld d)≤_
  rw [ld_at]; exact Nat.le_add_left _ _
theorem pot_hears (s d:Nat) (a:Int):∀ (L:List F9) (P:PL),potL zs.length (some (a,(hearsL zs s d a P L).1))+wtL (hearsL zs s d a P L).2≤potL zs.length (some (a,P))
 | [],P=>Nat.le_refl _
 | f :: r,P=>by
  have h1:=pot_hears s d a r (phear zs s d a P f).1
  have h2:=pot_lead (zs:=zs) (i:=s) (d:=d) (att:=a) (P:=P) (f:=f) zs.length rfl
  unfold hearsL
  show potL zs.length (some (a,(hearsL zs s d a (phear zs s d a P f).1 r).1))+wtL (outL s d a zs.length (phear zs s d a P f).2 ++ (hearsL zs s d a (phear zs s d a P f).1 r).2)≤_
  rw [wtL_append]
  omega
theorem wtL_less (L:List F9) (k:Nat):wtL (L.eraseIdx k)≤wtL L:=by
 cases h:L[k]? with
 | none=>rw [List.eraseIdx_of_length_le (List.getElem?_eq_none_iff.1 h)]; exact Nat.le_refl _
 | some f=>have:=wtL_erase L k f h; omega
theorem pot_try (s d:Nat) (a:Int):pot zs (tryX zs V s d a)≤pot zs V+5 * zs.length:=by
 unfold tryX
 split
 ·omega
 ·split
  ·have:=pot_hearX (zs:=zs) (V:=V) s (electF s d a); omega
  ·rw [pot_send,wtL_append]
   have h1:=pot_hearX (zs:=zs) (V:=V) s (electF s d a)
   have h2:=pot_hears (zs:=zs) s d a (ansN s (V.nd s) (electF s d a)) P0
   have h3:potL zs.length (some (a,P0))=3 * zs.length:=rfl
   have h4:=wtL_less (toL s d 3 a 0 zs.length) s
   have h5:wtL (toL s d 3 a 0 zs.length)=zs.length * 2:=by rw [wtL_to,if_pos (by decide)]
   have h6:=pot_setLd zs.length (hearN (V.nd s) (electF s d a)) d (a,(hearsL zs s d a P0 (ansN s (V.nd s) (electF s d a))).1)
   have h7:=pot_node (zs:=zs) (V:=hearX V s (electF s d a)) (i:=s) (c:=potL zs.length (some (a,(hearsL zs s d a P0 (ansN s (V.nd s) (electF s d a))).1))) (N:=setLd (hearN (V.nd s) (electF s d a)) d (a,(hearsL zs s d a P0 (ansN s (V.nd s) (electF s d a))).1)) (by
    have e:(hearX V s (electF s d a)).nd s=hearN (V.nd s) (electF s d a):=nd_at V s _
    rw [e]; exact h6)
   have h8:wtL (electL s d a zs.length)≤zs.length * 2:=by rw [← h5]; exact h4
   omega
theorem pot_ticks (s d:Nat):pot zs (tickD zs V s d)≤pot zs V+5 * zs.length:=by
 unfold tickD
 split
 ·omega
 ·split
  ·rw [pot_send,wtL_to,if_neg (by decide)]; omega
  ·exact pot_try s d _
theorem pot_tick (s:Nat):∀ (k d:Nat) (V:PX),pot zs (tickX zs s k d V)≤pot zs V+k * (5 * zs.length)
 | 0,_,V=>by show pot zs V≤_; omega
 | k+1,d,V=>by
  have h1:=pot_ticks (zs:=zs) (V:=V) s d
  have e:(k+1) * (5 * zs.length)=k * (5 * zs.length)+5 * zs.length:=Nat.succ_mul _ _
  unfold tickX
  split
  ·have h2:=pot_tick s k (d+1) (tickD zs V s d)
   omega
  ·omega
theorem Stp.pot (h:Stp zs V V') (hX:XI zs V m):pot zs V'≤pot zs V+210:=by
 have n7:=(errW_zero hX.he).2.1
 rcases h with rfl|⟨s,d,hs,hd,hc,rfl⟩|⟨s,d,hs,hu,rfl⟩|⟨s,hs,hu,rfl⟩|⟨s,hs,hu,rfl⟩|⟨s,hs,hu,rfl⟩|⟨k,rfl⟩|⟨k,f,hf,rfl⟩|⟨a,b,x,rfl⟩|⟨s,n,hs,rfl⟩|⟨k,f,hk,rfl⟩
 ·omega
 ·unfold beginX
  rw [pot_send,wtL_to,if_pos (by decide)]
  have h6:=pot_setLd zs.length (V.nd s) d (0,P0)
  have h3:potL zs.length (some ((0:Int),P0))=3 * zs.length:=rfl
  have:=pot_node (zs:=zs) (V:=V) (i:=s) h6
  omega
 ·have:=pot_node (zs:=zs) (V:=V) (i:=s) (c:=0) (N:={ V.nd s with R:=updR (V.nd s).R d }) (Nat.le_refl _)
  show pot zs (setNd V s _)≤_
  omega
 ·have:=pot_tick (zs:=zs) s 6 0 V
  omega
 ·have:=pot_node (zs:=zs) (V:=V) (i:=s) (c:=0) (N:=fallN (V.nd s)) (Nat.zero_le _)
  show pot zs (setNd V s _)≤_
  omega
 ·have:=pot_node (zs:=zs) (V:=V) (i:=s) (c:=0) (N:={ V.nd s with l:=-1,over:=false,R:=fun _=>false }) (Nat.le_refl _)
  show pot zs (setNd V s _)≤_
  omega
 ·show wtL (V.fly.eraseIdx k)+sumN (fun i=>potN zs.length (V.nd i)) zs.length≤wtL V.fly+sumN (fun i=>potN zs.length (V.nd i)) zs.length+210
  have:=wtL_less V.fly k
  omega
 ·show wtL (V.fly.take k ++ f :: V.fly.drop k)+sumN (fun i=>potN zs.length (V.nd i)) zs.length≤wtL V.fly+sumN (fun i=>potN zs.length (V.nd i)) zs.length+210
  have h1:wtL V.fly=wtL (V.fly.take k)+wtL (V.fly.drop k):=by rw [← wtL_append,List.take_append_drop]
  have h2:wtL (f :: V.fly.drop k)=wtF f+wtL (V.fly.drop k):=by simp [wtL]
  have h3:wtF f≤2:=by unfold wtF; split <;> omega
  rw [wtL_append,h2]
  omega
 ·show pot zs V≤_
  omega
 ·have:=pot_node (zs:=zs) (V:=V) (i:=s) (c:=0) (N:={ V.nd s with l:=cL (V.nd s).l n }) (Nat.le_refl _)
  show pot zs (setNd V s _)≤_
  omega
 ·have:=pot_deliver hX hk
  omega
end
def ticksX (zs:List Int) (set:Int):Nat→PX→PX
 | 0,V=>V
 | k+1,V=>if bit set k=true∧upN ((ticksX zs set k V).nd k)=true then tickX zs k 6 0 (ticksX zs set k V) else ticksX zs set k V
def delX (zs:List Int):Nat→PX→PX
 | 0,V=>V
 | k+1,V=>match V.fly with
  | []=>V
  | f :: _=>delX zs k (deliverX zs V 0 f)
section
variable {zs:List Int} {set:Int} {V V':PX} {m M:Nat}
theorem del_nil {k:Nat} (h:V.fly=[]):delX zs k V=V:=by
 cases k with
 | zero=>rfl
 | succ k=>unfold delX; rw [h]
theorem XI.deliver {k:Nat} {f:F9} (hX:XI zs V m) (hm:m<4000000000) (hf:f∈V.fly):XI zs (deliverX zs V k f) (m+2):=by
 have hF:=hX.fr f hf
 have hX1:XI zs (takeX V k) m:=hX.take
 have t0:=hF.t0; have t1:=hF.t1
 have hd6:0≤f.d∧f.d≤5:=hF.ok.2.2.1
 unfold deliverX
 split
 ·rename_i hr
  have hu:((takeX V k).nd f.t.toNat).l≠-2:=by
   show (V.nd f.t.toNat).l≠-2
   unfold reachB at hr
   rw [Bool.and_eq_true] at hr
   have:=hr.1
   unfold upN at this
   simpa using this
  unfold arriveX arriveO
  split
  ·exact (hX1.lead hF (by omega) (by omega)).mono (by omega)
  ·rename_i ha
   have h2:=hX1.hear hu hF hm (by omega)
   have hle:(ansN f.t.toNat ((takeX V k).nd f.t.toNat) f).length≤1000:=by
    unfold ansN
    split
    ·show 1≤1000; decide
    ·show 0≤1000; decide
   exact h2.send (ansN_fi (hX1.nd _ (by omega)) hu hF hm (by omega)) hle
 ·exact hX1.mono (by omega)
end
def delN (zs:List Int):Nat→PX→Nat
 | 0,_=>0
 | k+1,V=>match V.fly with
  | []=>0
  | f :: _=>delN zs k (deliverX zs V 0 f)+1
section
variable {zs:List Int} {V:PX} {m:Nat}
theorem delN_nil {k:Nat} (h:V.fly=[]):delN zs k V=0:=by
 cases k with
 | zero=>rfl
 | succ k=>unfold delN; rw [h]
theorem delN_cons {k:Nat} {f:F9} {rest:List F9} (h:V.fly=f :: rest):delN zs (k+1) V=delN zs k (deliverX zs V 0 f)+1:=by
 show (match V.fly with|[]=>0|f :: _=>delN zs k (deliverX zs V 0 f)+1)=_
 rw [h]
end
theorem ax_events {zs:List Int} {V:PX} (hA:AX zs V):EvF zs.length V.evs 0 V.evs.length:=by
 refine ⟨fun j hj _=>?_,.inl ⟨rfl,rfl⟩⟩
 obtain ⟨i,d,p,h1,h2,h3,h4,h5⟩:=hA.ex.at_ (V.evs[j]'hj) (List.getElem_mem hj)
 have hpre:∀ q,q∈V.evs.take j→q∈V.evs∧¬ (q.s=(V.evs[j]'hj).s∧q.d=(V.evs[j]'hj).d):=by
  intro q hq
  refine ⟨List.mem_of_mem_take hq,?_⟩
  have hp:=hA.ex.once
  rw [← List.take_append_drop j V.evs,List.pairwise_append] at hp
  exact hp.2.2 q hq _ (by rw [List.drop_eq_getElem_cons hj]; exact List.mem_cons_self)
 obtain ⟨g,hg⟩:=hA.gx d h3
 have hb:bdB zs.length (V.evs[j]'hj)=true:=by rw [h1]; exact decide_eq_true ⟨⟨by simp only; omega,by simp only; omega⟩,⟨by simp only; omega,by simp only; omega⟩,by simp only; omega⟩
 have hs:spB (V.evs.take j) (V.evs[j]'hj)=false:=by
  unfold spB
  rw [List.any_eq_false]
  intro q hq hx
  obtain ⟨x1,x2⟩:=of_decide_eq_true hx
  obtain ⟨i',d',p',g1,g2,g3,g4,g5⟩:=hA.ex.at_ q (hpre q hq).1
  rw [h1,g1] at x1 x2
  simp only at x1 x2
  have ed:d'=d:=by omega
  subst ed
  have s2:=hg.co.s2
  have s3:=hg.co.s3
  rcases h4 with h4|h4 <;> rcases g4 with g4|g4
  ·omega
  ·exact hg.co.split (s2 i h2 (by show (stN (V.nd i) d').ph=2; omega)) (s3 i' g2 (by show (stN (V.nd i') d').ph=3; omega))
  ·exact hg.co.split (s2 i' g2 (by show (stN (V.nd i') d').ph=2; omega)) (s3 i h2 (by show (stN (V.nd i) d').ph=3; omega))
  ·omega
 have hh:heB (V.evs.take j) (V.evs[j]'hj)=false:=by
  unfold heB
  rw [List.any_eq_false]
  intro q hq hx
  obtain ⟨x1,x2⟩:=of_decide_eq_true hx
  exact (hpre q hq).2 ⟨x2,x1⟩
 unfold evC
 rw [if_neg (by rw [hb]; decide),if_neg (by rw [hs]; decide),if_neg (by rw [hh]; decide)]
end Go.Proofs.YtaehdgemkafinaaGreatDoor
