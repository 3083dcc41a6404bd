/-
  On the way to SPlaysProof: RS.
-/
import Derived.Test.YtaehdgemkafinaaGreatDoorBx14
import Derived.Test.YtaehdgemkafinaaGreatDoorBx13
set_option maxHeartbeats 8000000
set_option maxRecDepth 100000
namespace Go.Proofs.YtaehdgemkafinaaGreatDoor
open Go.RowKit
open Go.Proofs.Tryz
def In4(m gn gs r k:Nat):Prop:=k=m∨k=gn∨k=gs∨k=r
structure RK (w:World) (m gn gs r:Nat) (E:Nat->Nat×St) (dead:Bool) (B:ByteArray) (l:Int):Prop where
 rj:RJ w m gn gs r E dead
 rp:∃off l' cuts,RP w r B off l' cuts∧Lk l off l' cuts
 rm:r≠m
 rn:r≠gn
 rs:r≠gs
 sz:B.size<=1000
 s6:216<=B.size
section
variable {w w':World} {m gn gs r:Nat} {E:Nat→Nat×St} {dead:Bool} {B B':ByteArray} {l l':Int}
theorem RJ.kept{S:Nat->Prop}(h:RJ w m gn gs r E dead)(k:Kept S w w')(h1:¬S m)(a:¬S gn)(b:¬S gs):RJ w' m gn gs r E dead:=by
 obtain⟨⟨c,d,e⟩,⟨f,g,i⟩,⟨j,n,o⟩,p,q,s⟩:=h;exact⟨⟨c,d,k.row e h1⟩,⟨f,k.row g a,i⟩,⟨j,k.row n b,o⟩,p,q,s⟩
theorem RK.kept{S:Nat->Prop}(h:RK w m gn gs r E dead B l)(k:Kept S w w')(h1:¬S m)(a:¬S gn)(b:¬S gs)(c:¬S r):RK w' m gn gs r E dead B l:=by
 obtain⟨d,l',e,f,g⟩:=h.rp;exact⟨h.rj.kept k h1 a b,⟨d,l',e,f.kept k c,g⟩,h.rm,h.rn,h.rs,h.sz,h.s6⟩
theorem RK.later(h:RK w m gn gs r E dead B l)(b:Below w.heap.size w w'):RK w' m gn gs r E dead B l:=h.kept (S:=fun _=>False) (Kept.of_below b) (fun a=>a) (fun a=>a) (fun a=>a) (fun a=>a)
theorem RK.drew(h:RK w m gn gs r E dead B l):RK w.drew m gn gs r E dead B l:=h.later aF.drew
theorem RK.lts(h:RK w m gn gs r E dead B l):m<w.heap.size∧gn<w.heap.size∧gs<w.heap.size∧r<w.heap.size:=by
 obtain⟨⟨⟨e,f,a⟩,⟨g,b,_⟩,⟨i,c,_⟩,_,_,_⟩,⟨j,l',k,d,_⟩,_,_,_,_,_⟩:=h;exact⟨ah a,ah b,ah c,ah d⟩
theorem RK.bytes(h:RK w m gn gs r E dead B l):w.cell? ⟨r,0,none⟩=some (.string B):=by
 obtain⟨b,l',c,a,_⟩:=h.rp;exact a.c0
theorem RK.cells(h:RK w m gn gs r E dead B l):∃a b,w.cell? ⟨m,0,none⟩=some (.pointer (some ⟨r,0,none⟩))∧w.cell? ⟨m,1,none⟩=some (.slice (some ⟨gn,0,none⟩) 6 a)∧w.cell? ⟨m,2,none⟩=some (.slice (some ⟨gs,0,none⟩) 6 b)∧w.cell? ⟨m,3,none⟩=some (.bool dead)∧w.frozen? ⟨m,3,none⟩=false:=by
 obtain⟨a,b,c⟩:=h.rj.row;refine⟨a,b,?_,?_,?_,?_,aK w m 3 _ _ c⟩
 all_goals rw[ai c];rfl
theorem RK.num(h:RK w m gn gs r E dead B l){d:Nat}(b:d<6):w.cell? ⟨gn,d,none⟩=some (.int .i64 ((E d).1:Int))∧w.frozen? ⟨gn,d,none⟩=false:=by
 obtain⟨e,a,c⟩:=h.rj.nums;exact⟨by rw[ai a];exact c d b,aK w gn d _ _ a⟩
theorem RK.st(h:RK w m gn gs r E dead B l){d:Nat}(b:d<6):w.cell? ⟨gs,d*3,none⟩=some (.int .i64 ((E d).2.ph:Int))∧w.cell? ⟨gs,d*3+1,none⟩=some (.int .i64 ((E d).2.pr:Int))∧w.cell? ⟨gs,d*3+2,none⟩=some (.int .i64 ((E d).2.at_:Int))∧(∀i,w.frozen? ⟨gs,i,none⟩=false):=by
 obtain⟨e,a,c⟩:=h.rj.sts;obtain⟨f,g,j⟩:=c d b;refine⟨?_,?_,?_,fun i=>aK w gs i _ _ a⟩
 all_goals(rw[ai a];assumption)
theorem pO(s:ByteArray)(a:Int)(c:Nat)(h:RK w m gn gs r E dead B l)(d:wC B s l a=c):Calls prog 210 #[.pointer (some ⟨r,0,none⟩),.int .i64 a,.string s] w fun e w'=>e=.returned (.int .i64 (c:Int))∧RK w' m gn gs r E dead (wB B s l a) (wL B s l a)∧Kept (In4 m gn gs r) w w':=by
 rw[<-d];obtain⟨f,l',g,i,j⟩:=h.rp;refine(adB r B s l a l' f g w i j h.sz).mono ?_;rintro e w' ⟨rfl,k,b⟩;refine⟨rfl,⟨h.rj.kept b (fun e=>h.rm e.symm) (fun e=>h.rn e.symm) (fun e=>h.rs e.symm),k,h.rm,h.rn,h.rs,by rw[km];exact h.sz,by rw[km];exact h.s6⟩,b.mono (fun n e=>.inr (.inr (.inr e)))⟩
theorem adU(a n:Int)(c:Nat)(h:RK w m gn gs r E dead B l)(b:rC B l a n=c):Calls prog 209 #[.pointer (some ⟨r,0,none⟩),.int .i64 a,.int .i64 n] w fun e w'=>e=.returned (.int .i64 (c:Int))∧w'=w:=by
 rw[<-b];obtain⟨d,l',f,g,i⟩:=h.rp;exact ahz r B l a n l' d f w g i h.sz
theorem RK.die(h:RK w m gn gs r E dead B l):RK (w.setCell ⟨m,3,none⟩ (.bool true)) m gn gs r E true B l∧Kept (In4 m gn gs r) w (w.setCell ⟨m,3,none⟩ (.bool true)):=by
 have b:Kept (In1 m) w (w.setCell ⟨m,3,none⟩ (.bool true)):=(Kept.refl _ _).set1 3 _;obtain⟨⟨⟨f,g,i⟩,⟨j,k,n⟩,⟨o,p,q⟩,c,d,s⟩,⟨t,l',u,v,x⟩,e,y,z,A,C⟩:=h;refine⟨⟨⟨⟨f,g,?_⟩,⟨j,b.row k (fun a=>c a.symm),n⟩,⟨o,b.row p (fun a=>d a.symm),q⟩,c,d,s⟩,⟨t,l',u,v.kept b (fun a=>e a),x⟩,e,y,z,A,C⟩,b.mono (fun D a=>.inl a)⟩;exact aE w m 3 _ _ _ i
theorem RK.put(h:RK w m gn gs r E dead B l){d:Nat}(F:d<6)(n:Nat)(s:St)(k:Int)(G:k=(n:Int)):RK ((((w.setCell ⟨gn,d,none⟩ (.int .i64 k)).setCell ⟨gs,d*3,none⟩ (.int .i64 (s.ph:Int))).setCell ⟨gs,d*3+1,none⟩ (.int .i64 (s.pr:Int))).setCell ⟨gs,d*3+2,none⟩ (.int .i64 (s.at_:Int))) m gn gs r (iM E d (n,s)) dead B l∧Kept (In4 m gn gs r) w ((((w.setCell ⟨gn,d,none⟩ (.int .i64 k)).setCell ⟨gs,d*3,none⟩ (.int .i64 (s.ph:Int))).setCell ⟨gs,d*3+1,none⟩ (.int .i64 (s.pr:Int))).setCell ⟨gs,d*3+2,none⟩ (.int .i64 (s.at_:Int))):=by
 subst G;have g:Kept (In1 gn) w (w.setCell ⟨gn,d,none⟩ (iV (n:Int))):=(Kept.refl _ _).set1 d _;have i:Kept (In1 gs) (w.setCell ⟨gn,d,none⟩ (iV (n:Int))) ((((w.setCell ⟨gn,d,none⟩ (iV (n:Int))).setCell ⟨gs,d*3,none⟩ (iV (s.ph:Int))).setCell ⟨gs,d*3+1,none⟩ (iV (s.pr:Int))).setCell ⟨gs,d*3+2,none⟩ (iV (s.at_:Int))):=(((Kept.refl _ _).set1 (d*3) _).set1 (d*3+1) _).set1 (d*3+2) _;obtain⟨⟨⟨H,I,J⟩,⟨o,K,u⟩,⟨j,L,M⟩,v,x,p⟩,⟨N,l',O,P,Q⟩,R,y,z,S,T⟩:=h;refine⟨⟨⟨⟨H,I,i.row (g.row J v) x⟩,⟨o.setIfInBounds d (iV (n:Int)),i.row (aE w gn d _ _ _ K) p,?_⟩,⟨((j.setIfInBounds (d*3) (iV (s.ph:Int))).setIfInBounds (d*3+1) (iV (s.pr:Int))).setIfInBounds (d*3+2) (iV (s.at_:Int)),?_,?_⟩,v,x,p⟩,⟨N,l',O,(P.kept g y).kept i z,Q⟩,R,y,z,S,T⟩,(g.mono (fun U a=>.inr (.inl a))).trans (i.mono (fun U a=>.inr (.inr (.inl a))))⟩
 ·intro a q
  unfold iM;rw[Array.getElem?_setIfInBounds];have e:∀b f,o[b]?=some f->b<o.size:=fun b f t=>(Array.getElem?_eq_some_iff.1 t).1
  by_cases c:d=a
  ·subst c
   rw[af rfl,af (e _ _ (u d F)),af rfl]
  ·rw[aa c,u a q,aa (fun V=>c V.symm)]
 ·have W:=aE (w.setCell ⟨gn,d,none⟩ (iV (n:Int))) gs (d*3) j _ (iV (s.ph:Int)) (g.row L (fun a=>p a.symm))
  have X:=aE _ gs (d*3+1) _ _ (iV (s.pr:Int)) W;exact aE _ gs (d*3+2) _ _ (iV (s.at_:Int)) X
 ·intro a q
  unfold iM;have e:∀b f,j[b]?=some f->b<j.size:=fun b f t=>(Array.getElem?_eq_some_iff.1 t).1
  obtain⟨A,C,D⟩:=M a q;have Y:=e _ _ A;have Z:=e _ _ C;have l2:=e _ _ D;simp only[Array.getElem?_setIfInBounds,Array.size_setIfInBounds]
  by_cases c:a=d
  ·subst c
   rw[show(if a=a then(n,s)else E a)=(n,s)from af rfl];refine⟨?_,?_,?_⟩
   ·rw[aa (by omega),aa (by omega),af rfl,af Y]
   ·rw[aa (by omega),af rfl,af Z]
   ·rw[af rfl,af l2]
  ·rw[show(if a=d then(n,s)else E a)=E a from aa c]
   refine⟨?_,?_,?_⟩
   ·rw[aa (by omega),aa (by omega),aa (by omega)];exact A
   ·rw[aa (by omega),aa (by omega),aa (by omega)];exact C
   ·rw[aa (by omega),aa (by omega),aa (by omega)];exact D
end
section
variable {w:World} {m gn gs r:Nat} {E:Nat→Nat×St} {B:ByteArray} {l:Int}
theorem acs(d ph pr a:Int)(h:RK w m gn gs r E true B l):Calls prog 182 #[.pointer (some ⟨m,0,none⟩),.int .i64 d,.agg #[.int .i64 ph,.int .i64 pr,.int .i64 a]] w fun e w'=>e=.returned (.int .i64 6)∧Below w.heap.size w w':=by
 obtain⟨b,c⟩:=nmd (w.alloc (.cells #[iV ph,iV pr,iV a] 80));have f:Hid (bW w b):=by rw[<-c.out];exact aD
 have g:Hid (b.heap[w.heap.size]?=some (.cells #[iV ph,iV pr,iV a] 80 (0,0))):=by rw[<-c.out];exact aB w _
 have i:=c.out;obtain⟨j,k,n,o,p,q,s⟩:=(h.later f).cells;clear h
 go_enter func182,ntmps182
 go_wp2_with fail
 go_ret
 exact⟨rfl,f⟩
theorem aaD(d ph pr a:Int)(h:RK w m gn gs r E false B l)(j:¬((0<=d∧d<6)∧fQ ph pr a=true)):Calls prog 182 #[.pointer (some ⟨m,0,none⟩),.int .i64 d,.agg #[.int .i64 ph,.int .i64 pr,.int .i64 a]] w fun e w'=>e=.returned (.int .i64 2)∧Below w.heap.size w w':=by
 obtain⟨f,g⟩:=nmd (w.alloc (.cells #[iV ph,iV pr,iV a] 80));have b:Hid (bW w f):=by rw[<-g.out];exact aD
 have i:Hid (f.heap[w.heap.size]?=some (.cells #[iV ph,iV pr,iV a] 80 (0,0))):=by rw[<-g.out];exact aB w _
 have k:=g.out;obtain⟨n,o,p,q,s,t,u⟩:=(h.later b).cells;have v:f.cell? ⟨w.heap.size,0,none⟩=some (iV ph):=by rw[ai i.out];rfl
 have x:f.cell? ⟨w.heap.size,1,none⟩=some (iV pr):=by rw[ai i.out];rfl
 have y:f.cell? ⟨w.heap.size,2,none⟩=some (iV a):=by rw[ai i.out];rfl
 have c:=hid j;clear h j
 by_cases z:d<0
 ·clear c
  go_enter func182,ntmps182
  go_wp2_with fail
  go_ret
  exact⟨rfl,b⟩
 by_cases A:6<=d
 ·clear c
  go_enter func182,ntmps182
  go_wp2_with fail
  go_ret
  exact⟨rfl,b⟩
 by_cases C:ph<0
 ·clear c
  go_enter func182,ntmps182
  go_wp2_with fail
  go_ret
  exact⟨rfl,b⟩
 by_cases D:255<ph
 ·clear c
  go_enter func182,ntmps182
  go_wp2_with fail
  go_ret
  exact⟨rfl,b⟩
 by_cases F:pr<0
 ·clear c
  go_enter func182,ntmps182
  go_wp2_with fail
  go_ret
  exact⟨rfl,b⟩
 by_cases G:1048576<pr
 ·clear c
  go_enter func182,ntmps182
  go_wp2_with fail
  go_ret
  exact⟨rfl,b⟩
 by_cases H:a<0
 ·clear c
  go_enter func182,ntmps182
  go_wp2_with fail
  go_ret
  exact⟨rfl,b⟩
 by_cases I:1048576<a
 ·clear c
  go_enter func182,ntmps182
  go_wp2_with fail
  go_ret
  exact⟨rfl,b⟩
 exfalso
 apply c;unfold fQ;exact⟨by omega,bo (by omega)⟩
end
end Go.Proofs.YtaehdgemkafinaaGreatDoor
