/-
  On the way to WStepsProof: RS RT.
-/
import Derived.Test.YtadhpkopkkjmfaaGreatDoorBz28
import Derived.Test.YtadhpkopkkjmfaaGreatDoorBz23
set_option maxHeartbeats 8000000
set_option maxRecDepth 100000
namespace Go.Proofs.YtadhpkopkkjmfaaGreatDoor
open Go.RowKit
def In4 (m gn gs r k:Nat):Prop:=k=m ∨ k=gn ∨ k=gs ∨ k=r
structure RK (w:World) (m gn gs r:Nat) (E:Nat→Nat×St) (dead:Bool) (B:ByteArray) (l:Int):Prop where
 rj:RJ w m gn gs r E dead
 rp:∃ off l' cuts,RP w r B off l' cuts∧Lk l off l' cuts
 rm:r≠m
 rn:r≠gn
 rs:r≠gs
 sz:B.size≤1000
 s6:216≤B.size
section
variable {w w':World} {m gn gs r:Nat} {E:Nat→Nat×St} {dead:Bool} {B B':ByteArray} {l l':Int}
theorem RJ.kept {S:Nat→Prop} (h:RJ w m gn gs r E dead) (k:Kept S w w') (h1:¬ S m) (h2:¬ S gn) (h3:¬ S gs):RJ w' m gn gs r E dead:=by
 obtain ⟨⟨cn,cs,r1⟩,⟨N,n1,n2⟩,⟨T,t1,t2⟩,a,b,c⟩:=h
 exact ⟨⟨cn,cs,k.row r1 h1⟩,⟨N,k.row n1 h2,n2⟩,⟨T,k.row t1 h3,t2⟩,a,b,c⟩
theorem RK.kept {S:Nat→Prop} (h:RK w m gn gs r E dead B l) (k:Kept S w w') (h1:¬ S m) (h2:¬ S gn) (h3:¬ S gs) (h4:¬ S r):RK w' m gn gs r E dead B l:=by
 obtain ⟨off,l',cuts,p1,p2⟩:=h.rp
 exact ⟨h.rj.kept k h1 h2 h3,⟨off,l',cuts,p1.kept k h4,p2⟩,h.rm,h.rn,h.rs,h.sz,h.s6⟩
theorem RK.later (h:RK w m gn gs r E dead B l) (hb:Below w.heap.size w w'):RK w' m gn gs r E dead B l:=h.kept (S:=fun _=>False) (Kept.of_below hb) (fun x=>x) (fun x=>x) (fun x=>x) (fun x=>x)
theorem RK.drew (h:RK w m gn gs r E dead B l):RK w.drew m gn gs r E dead B l:=h.later (Below.refl _ _).drew
theorem RK.lts (h:RK w m gn gs r E dead B l):m<w.heap.size∧gn<w.heap.size∧gs<w.heap.size∧r<w.heap.size:=by
 obtain ⟨⟨⟨cn,cs,r1⟩,⟨N,n1,_⟩,⟨T,t1,_⟩,_,_,_⟩,⟨off,l',cuts,p1,_⟩,_,_,_,_,_⟩:=h
 exact ⟨row_ltJ r1,row_ltJ n1,row_ltJ t1,row_ltJ p1⟩
theorem RK.bytes (h:RK w m gn gs r E dead B l):w.cell? ⟨r,0,none⟩=some (.string B):=by
 obtain ⟨off,l',cuts,p1,_⟩:=h.rp
 exact p1.c0
theorem RK.cells (h:RK w m gn gs r E dead B l):∃ cn cs,w.cell? ⟨m,0,none⟩=some (.pointer (some ⟨r,0,none⟩))∧w.cell? ⟨m,1,none⟩=some (.slice (some ⟨gn,0,none⟩) 6 cn)∧w.cell? ⟨m,2,none⟩=some (.slice (some ⟨gs,0,none⟩) 6 cs)∧w.cell? ⟨m,3,none⟩=some (.bool dead)∧w.frozen? ⟨m,3,none⟩=false:=by
 obtain ⟨cn,cs,r1⟩:=h.rj.row
 refine ⟨cn,cs,?_,?_,?_,?_,frozen_of_row w m 3 _ _ r1⟩
 all_goals rw [cell_of_row _ _ _ _ _ _ r1]; rfl
theorem RK.num (h:RK w m gn gs r E dead B l) {d:Nat} (hd:d<6):w.cell? ⟨gn,d,none⟩=some (.int .i64 ((E d).1:Int))∧w.frozen? ⟨gn,d,none⟩=false:=by
 obtain ⟨N,n1,n2⟩:=h.rj.nums
 exact ⟨by rw [cell_of_row _ _ _ _ _ _ n1]; exact n2 d hd,frozen_of_row w gn d _ _ n1⟩
theorem RK.st (h:RK w m gn gs r E dead B l) {d:Nat} (hd:d<6):w.cell? ⟨gs,d * 3,none⟩=some (.int .i64 ((E d).2.ph:Int))∧w.cell? ⟨gs,d * 3+1,none⟩=some (.int .i64 ((E d).2.pr:Int))∧w.cell? ⟨gs,d * 3+2,none⟩=some (.int .i64 ((E d).2.at_:Int))∧(∀ i,w.frozen? ⟨gs,i,none⟩=false):=by
 obtain ⟨T,t1,t2⟩:=h.rj.sts
 obtain ⟨a,b,c⟩:=t2 d hd
 refine ⟨?_,?_,?_,fun i=>frozen_of_row w gs i _ _ t1⟩
 all_goals (rw [cell_of_row _ _ _ _ _ _ t1]; assumption)
theorem write_rk (s:ByteArray) (a:Int) (c:Nat) (h:RK w m gn gs r E dead B l) (hc:wC B s l a=c) :
  Calls Tryz.prog 201 #[.pointer (some ⟨r,0,none⟩),.int .i64 a,.string s] w fun e w'=>e=.returned (.int .i64 (c:Int))∧RK w' m gn gs r E dead (wB B s l a) (wL B s l a)∧Kept (In4 m gn gs r) w w':=by
 rw [← hc]
 obtain ⟨off,l',cuts,p1,p2⟩:=h.rp
 refine (write_rp r B s l a l' off cuts w p1 p2 h.sz).mono ?_
 rintro e w' ⟨rfl,hx,hk⟩
 refine ⟨rfl,⟨h.rj.kept hk (fun e=>h.rm e.symm) (fun e=>h.rn e.symm) (fun e=>h.rs e.symm),hx,h.rm,h.rn,h.rs,by rw [wB_size]; exact h.sz,by rw [wB_size]; exact h.s6⟩,hk.mono (fun k e=>.inr (.inr (.inr e)))⟩
theorem error_rk (a n:Int) (c:Nat) (h:RK w m gn gs r E dead B l) (hc:rC B l a n=c) :
  Calls Tryz.prog 200 #[.pointer (some ⟨r,0,none⟩),.int .i64 a,.int .i64 n] w fun e w'=>e=.returned (.int .i64 (c:Int))∧w'=w:=by
 rw [← hc]
 obtain ⟨off,l',cuts,p1,p2⟩:=h.rp
 exact err_rp r B l a n l' off cuts w p1 p2 h.sz
theorem RK.die (h:RK w m gn gs r E dead B l):RK (w.setCell ⟨m,3,none⟩ (.bool true)) m gn gs r E true B l∧Kept (In4 m gn gs r) w (w.setCell ⟨m,3,none⟩ (.bool true)):=by
 have hk:Kept (In1 m) w (w.setCell ⟨m,3,none⟩ (.bool true)):=(Kept.refl _ _).set1 3 _
 obtain ⟨⟨⟨cn,cs,r1⟩,⟨N,n1,n2⟩,⟨T,t1,t2⟩,a,b,c⟩,⟨off,l',cuts,p1,p2⟩,rm,rn,rs,sz,s6⟩:=h
 refine ⟨⟨⟨⟨cn,cs,?_⟩,⟨N,hk.row n1 (fun e=>a e.symm),n2⟩,⟨T,hk.row t1 (fun e=>b e.symm),t2⟩,a,b,c⟩,⟨off,l',cuts,p1.kept hk (fun e=>rm e),p2⟩,rm,rn,rs,sz,s6⟩,hk.mono (fun k e=>.inl e)⟩
 exact heap_setCell_same w m 3 _ _ _ r1
theorem RK.put (h:RK w m gn gs r E dead B l) {d:Nat} (hd:d<6) (n:Nat) (s:St) (z:Int) (hz:z=(n:Int)) :
  RK ((((w.setCell ⟨gn,d,none⟩ (.int .i64 z)).setCell ⟨gs,d * 3,none⟩ (.int .i64 (s.ph:Int))).setCell ⟨gs,d * 3+1,none⟩ (.int .i64 (s.pr:Int))).setCell ⟨gs,d * 3+2,none⟩ (.int .i64 (s.at_:Int))) m gn gs r (updE E d (n,s)) dead B l ∧
   Kept (In4 m gn gs r) w ((((w.setCell ⟨gn,d,none⟩ (.int .i64 z)).setCell ⟨gs,d * 3,none⟩ (.int .i64 (s.ph:Int))).setCell ⟨gs,d * 3+1,none⟩ (.int .i64 (s.pr:Int))).setCell ⟨gs,d * 3+2,none⟩ (.int .i64 (s.at_:Int))):=by
 subst hz
 have k1:Kept (In1 gn) w (w.setCell ⟨gn,d,none⟩ (.int .i64 (n:Int))):=(Kept.refl _ _).set1 d _
 have k2:Kept (In1 gs) (w.setCell ⟨gn,d,none⟩ (.int .i64 (n:Int))) ((((w.setCell ⟨gn,d,none⟩ (.int .i64 (n:Int))).setCell ⟨gs,d * 3,none⟩ (.int .i64 (s.ph:Int))).setCell ⟨gs,d * 3+1,none⟩ (.int .i64 (s.pr:Int))).setCell ⟨gs,d * 3+2,none⟩ (.int .i64 (s.at_:Int))):=(((Kept.refl _ _).set1 (d * 3) _).set1 (d * 3+1) _).set1 (d * 3+2) _
 obtain ⟨⟨⟨cn,cs,r1⟩,⟨N,n1,n2⟩,⟨T,t1,t2⟩,a,b,c⟩,⟨off,l',cuts,p1,p2⟩,rm,rn,rs,sz,s6⟩:=h
 refine ⟨⟨⟨⟨cn,cs,k2.row (k1.row r1 a) b⟩,⟨N.setIfInBounds d (.int .i64 (n:Int)),k2.row (heap_setCell_same w gn d _ _ _ n1) c,?_⟩,⟨((T.setIfInBounds (d * 3) (.int .i64 (s.ph:Int))).setIfInBounds (d * 3+1) (.int .i64 (s.pr:Int))).setIfInBounds (d * 3+2) (.int .i64 (s.at_:Int)),?_,?_⟩,a,b,c⟩,⟨off,l',cuts,(p1.kept k1 rn).kept k2 rs,p2⟩,rm,rn,rs,sz,s6⟩,(k1.mono (fun k e=>.inr (.inl e))).trans (k2.mono (fun k e=>.inr (.inr (.inl e))))⟩
 ·intro e he
  unfold updE
  rw [Array.getElem?_setIfInBounds]
  have hl:∀ i x,N[i]? = some x→i<N.size:=fun i x hx=>(Array.getElem?_eq_some_iff.1 hx).1
  by_cases h1:d=e
  ·subst h1
   rw [if_pos rfl,if_pos (hl _ _ (n2 d hd)),if_pos rfl]
  ·rw [if_neg h1,n2 e he,if_neg (fun g=>h1 g.symm)]
 ·have q1:=heap_setCell_same (w.setCell ⟨gn,d,none⟩ (.int .i64 (n:Int))) gs (d * 3) T _ (.int .i64 (s.ph:Int)) (k1.row t1 (fun e=>c e.symm))
  have q2:=heap_setCell_same _ gs (d * 3+1) _ _ (.int .i64 (s.pr:Int)) q1
  exact heap_setCell_same _ gs (d * 3+2) _ _ (.int .i64 (s.at_:Int)) q2
 ·intro e he
  unfold updE
  have hl:∀ i x,T[i]? = some x→i<T.size:=fun i x hx=>(Array.getElem?_eq_some_iff.1 hx).1
  obtain ⟨u0,u1,u2⟩:=t2 e he
  have l0:=hl _ _ u0
  have l1:=hl _ _ u1
  have l2:=hl _ _ u2
  simp only [Array.getElem?_setIfInBounds,Array.size_setIfInBounds]
  by_cases h1:e=d
  ·subst h1
   rw [show (if e=e then (n,s) else E e)=(n,s) from if_pos rfl]
   refine ⟨?_,?_,?_⟩
   ·rw [if_neg (by omega),if_neg (by omega),if_pos rfl,if_pos l0]
   ·rw [if_neg (by omega),if_pos rfl,if_pos l1]
   ·rw [if_pos rfl,if_pos l2]
  ·rw [show (if e=d then (n,s) else E e)=E e from if_neg h1]
   refine ⟨?_,?_,?_⟩
   ·rw [if_neg (by omega),if_neg (by omega),if_neg (by omega)]; exact u0
   ·rw [if_neg (by omega),if_neg (by omega),if_neg (by omega)]; exact u1
   ·rw [if_neg (by omega),if_neg (by omega),if_neg (by omega)]; exact u2
end
end Go.Proofs.YtadhpkopkkjmfaaGreatDoor
namespace Go.Proofs.YtadhpkopkkjmfaaGreatDoor
open Go.RowKit
section
variable {w:World} {m gn gs r:Nat} {E:Nat→Nat×St} {B:ByteArray} {l:Int}
theorem rput_over (d ph pr a:Int) (h:RK w m gn gs r E true B l) :
  Calls Tryz.prog 182 #[.pointer (some ⟨m,0,none⟩),.int .i64 d,.agg #[.int .i64 ph,.int .i64 pr,.int .i64 a]] w fun e w'=>e=.returned (.int .i64 6)∧Below w.heap.size w w':=by
 obtain ⟨W,HW⟩:∃ W,Hid (w.alloc (.cells #[.int .i64 ph,.int .i64 pr,.int .i64 a] 43)=W):=⟨_,rfl⟩
 have HB:Hid (Below w.heap.size w W):=by rw [← HW.out]; exact (Below.refl _ _).alloc (Nat.le_refl _) _
 have HS:Hid (W.heap[w.heap.size]? = some (.cells #[.int .i64 ph,.int .i64 pr,.int .i64 a] 43 (0,0))):=by rw [← HW.out]; exact heap_alloc_new w _
 have hW:=HW.out
 obtain ⟨cn,cs,c0,c1,c2,c3,f3⟩:=(h.later HB.out).cells
 clear h
 go_enter Tryz.func182,Tryz.ntmps182
 go_wp2_with fail
 go_ret
 exact ⟨rfl,HB.out⟩
theorem rput_bound (d ph pr a:Int) (h:RK w m gn gs r E false B l) (hb:¬ ((0≤d∧d<6)∧fitsB ph pr a=true)) :
  Calls Tryz.prog 182 #[.pointer (some ⟨m,0,none⟩),.int .i64 d,.agg #[.int .i64 ph,.int .i64 pr,.int .i64 a]] w fun e w'=>e=.returned (.int .i64 2)∧Below w.heap.size w w':=by
 obtain ⟨W,HW⟩:∃ W,Hid (w.alloc (.cells #[.int .i64 ph,.int .i64 pr,.int .i64 a] 43)=W):=⟨_,rfl⟩
 have HB:Hid (Below w.heap.size w W):=by rw [← HW.out]; exact (Below.refl _ _).alloc (Nat.le_refl _) _
 have HS:Hid (W.heap[w.heap.size]? = some (.cells #[.int .i64 ph,.int .i64 pr,.int .i64 a] 43 (0,0))):=by rw [← HW.out]; exact heap_alloc_new w _
 have hW:=HW.out
 obtain ⟨cn,cs,c0,c1,c2,c3,f3⟩:=(h.later HB.out).cells
 have s0:W.cell? ⟨w.heap.size,0,none⟩=some (.int .i64 ph):=by rw [cell_of_row _ _ _ _ _ _ HS.out]; rfl
 have s1:W.cell? ⟨w.heap.size,1,none⟩=some (.int .i64 pr):=by rw [cell_of_row _ _ _ _ _ _ HS.out]; rfl
 have s2:W.cell? ⟨w.heap.size,2,none⟩=some (.int .i64 a):=by rw [cell_of_row _ _ _ _ _ _ HS.out]; rfl
 have HK:=hid hb
 clear h hb
 by_cases g0:d<0
 ·clear HK
  go_enter Tryz.func182,Tryz.ntmps182
  go_wp2_with fail
  go_ret
  exact ⟨rfl,HB.out⟩
 by_cases g1:6≤d
 ·clear HK
  go_enter Tryz.func182,Tryz.ntmps182
  go_wp2_with fail
  go_ret
  exact ⟨rfl,HB.out⟩
 by_cases g2:ph<0
 ·clear HK
  go_enter Tryz.func182,Tryz.ntmps182
  go_wp2_with fail
  go_ret
  exact ⟨rfl,HB.out⟩
 by_cases g3:255<ph
 ·clear HK
  go_enter Tryz.func182,Tryz.ntmps182
  go_wp2_with fail
  go_ret
  exact ⟨rfl,HB.out⟩
 by_cases g4:pr<0
 ·clear HK
  go_enter Tryz.func182,Tryz.ntmps182
  go_wp2_with fail
  go_ret
  exact ⟨rfl,HB.out⟩
 by_cases g5:1048576<pr
 ·clear HK
  go_enter Tryz.func182,Tryz.ntmps182
  go_wp2_with fail
  go_ret
  exact ⟨rfl,HB.out⟩
 by_cases g6:a<0
 ·clear HK
  go_enter Tryz.func182,Tryz.ntmps182
  go_wp2_with fail
  go_ret
  exact ⟨rfl,HB.out⟩
 by_cases g7:1048576<a
 ·clear HK
  go_enter Tryz.func182,Tryz.ntmps182
  go_wp2_with fail
  go_ret
  exact ⟨rfl,HB.out⟩
 exfalso
 apply HK.out
 unfold fitsB
 exact ⟨by omega,decide_eq_true (by omega)⟩
end
theorem byte0 (w:World):Calls Tryz.prog 185 #[.int .i64 0] w fun e w'=>e=.returned (.string (bA [0]))∧Below w.heap.size w w':=byte_any 0 w (by omega)
theorem body_z (n h1 h2 h3:Nat) (s:ByteArray) (z:Int) (w:World) (hz:z=(n:Int)) (hn:n<4294967296) (b1:h1<256) (b2:h2<4294967296) (b3:h3<4294967296) (hs:bA (bodyL n ⟨h1,h2,h3⟩)=s) :
  Calls Tryz.prog 184 #[.int .i64 z,.agg #[.int .i64 (h1:Int),.int .i64 (h2:Int),.int .i64 (h3:Int)]] w fun e w'=>e=.returned (.string s)∧Below w.heap.size w w':=by
 subst hz; exact body_is n h1 h2 h3 s w hn b1 b2 b3 hs
section
variable {w:World} {m gn gs r:Nat} {E:Nat→Nat×St} {B:ByteArray} {l:Int}
def Stage (w0 W wx:World) (m gn gs r:Nat) (E:Nat→Nat×St) (o:Out) (ph pr a:Nat):Prop :=
 RK wx m gn gs r E false o.b o.l∧Kept (In4 m gn gs r) W wx∧wx.heap[w0.heap.size]? = some (.cells #[.int .i64 (ph:Int),.int .i64 (pr:Int),.int .i64 (a:Int)] 43 (0,0))
theorem Stage.drew {w0 W wx:World} {m gn gs r:Nat} {E:Nat→Nat×St} {o:Out} {ph pr a:Nat} (h:Stage w0 W wx m gn gs r E o ph pr a):Stage w0 W wx.drew m gn gs r E o ph pr a:=⟨h.1.drew,h.2.1.drew,h.2.2⟩
theorem rput_in (d ph pr a:Nat) (h:RK w m gn gs r E false B l) (hd:d<6) (hf:fitsB ph pr a=true) (hn:(E d).1<4294967296) :
  Calls Tryz.prog 182 #[.pointer (some ⟨m,0,none⟩),.int .i64 (d:Int),.agg #[.int .i64 (ph:Int),.int .i64 (pr:Int),.int .i64 (a:Int)]] w fun e w'=>e=.returned (.int .i64 ((putIn E B l d ⟨ph,pr,a⟩).c:Nat)) ∧
   RK w' m gn gs r (putIn E B l d ⟨ph,pr,a⟩).e (putIn E B l d ⟨ph,pr,a⟩).over (putIn E B l d ⟨ph,pr,a⟩).b (putIn E B l d ⟨ph,pr,a⟩).l∧Kept (In4 m gn gs r) w w':=by
 obtain ⟨b1,b2,b3,b4,b5,b6⟩:=of_decide_eq_true hf
 obtain ⟨W,HW⟩:∃ W,Hid (w.alloc (.cells #[.int .i64 (ph:Int),.int .i64 (pr:Int),.int .i64 (a:Int)] 43)=W):=⟨_,rfl⟩
 have HB:Hid (Below w.heap.size w W):=by rw [← HW.out]; exact (Below.refl _ _).alloc (Nat.le_refl _) _
 have HS:Hid (W.heap[w.heap.size]? = some (.cells #[.int .i64 (ph:Int),.int .i64 (pr:Int),.int .i64 (a:Int)] 43 (0,0))):=by rw [← HW.out]; exact heap_alloc_new w _
 have hW:=HW.out
 have HR:=hid (h.later HB.out)
 obtain ⟨m1,m2,m3,m4⟩:=h.lts
 have HKW:Hid (∀ wx,Kept (In4 m gn gs r) W wx→Kept (In4 m gn gs r) w wx):=fun wx hx=>(Kept.of_below HB.out).trans hx
 obtain ⟨⟨n,qh,qp,qa⟩,HD⟩:∃ x,Hid (E d=x):=⟨_,rfl⟩
 rw [HD.out] at hn
 simp only at hn
 have HP:Hid (putIn E B l d ⟨ph,pr,a⟩=@ite POut ((⟨qh,qp,qa⟩:St)=⟨ph,pr,a⟩) (stEq ⟨qh,qp,qa⟩ ⟨ph,pr,a⟩) ⟨0,E,false,B,l⟩ (if n=4294967295 then ⟨5,E,false,B,l⟩
   else if (fill3 B l (nextK d n) (n+1) ⟨ph,pr,a⟩).c=0 then ⟨0,updE E d (n+1,⟨ph,pr,a⟩),false,(fill3 B l (nextK d n) (n+1) ⟨ph,pr,a⟩).b,(fill3 B l (nextK d n) (n+1) ⟨ph,pr,a⟩).l⟩
   else ⟨(fill3 B l (nextK d n) (n+1) ⟨ph,pr,a⟩).c,E,true,(fill3 B l (nextK d n) (n+1) ⟨ph,pr,a⟩).b,(fill3 B l (nextK d n) (n+1) ⟨ph,pr,a⟩).l⟩)):=by
  unfold Hid putIn; rw [HD.out]
 obtain ⟨cn,cs,c0,c1,c2,c3,f3⟩:=HR.out.cells
 obtain ⟨nd,-⟩:=HR.out.num hd
 obtain ⟨t0,t1,t2,-⟩:=HR.out.st hd
 rw [HD.out] at nd t0 t1 t2
 simp only at nd t0 t1 t2
 have s0:W.cell? ⟨w.heap.size,0,none⟩=some (.int .i64 (ph:Int)):=by rw [cell_of_row _ _ _ _ _ _ HS.out]; rfl
 have s1:W.cell? ⟨w.heap.size,1,none⟩=some (.int .i64 (pr:Int)):=by rw [cell_of_row _ _ _ _ _ _ HS.out]; rfl
 have s2:W.cell? ⟨w.heap.size,2,none⟩=some (.int .i64 (a:Int)):=by rw [cell_of_row _ _ _ _ _ _ HS.out]; rfl
 obtain ⟨eqb,HQ⟩:∃ b:Bool,Hid (stSame ⟨qh,qp,qa⟩ ⟨ph,pr,a⟩=b):=⟨_,hid (Eq.refl _)⟩
 have heq:=st_eql (qh:Int) (qp:Int) (qa:Int) (ph:Int) (pr:Int) (a:Int) eqb (by rw [← HQ.out]; show _=decide (qh=ph∧qp=pr∧qa=a); apply decide_eq_decide.2; omega)
 clear h hf
 go_enter Tryz.func182,Tryz.ntmps182
 go_upto_region 7 with fail
 go_cut [57] from 15 (fun s57 wx=>s57=.bool eqb∧W.heap=wx.heap∧Below W.heap.size W wx)
 case first =>
  go_region
  all_goals go_step
  all_goals go_step
  all_goals go_meet
  all_goals exact ⟨rfl,rfl,(Below.refl _ _).drew⟩
 case rest =>
  obtain ⟨rfl,hh,hbc⟩:=hcut
  have HRc:=hid (HR.out.later hbc)
  have HBc:=hid hbc
  have HSc:=hid ((hbc.block _ (row_ltJ HS.out)).trans HS.out)
  have HKc:Hid (∀ wx,Kept (In4 m gn gs r) wc wx→Kept (In4 m gn gs r) w wx):=fun wx hx=>HKW.out wx ((Kept.of_below HBc.out).trans hx)
  clear hh hbc c0 c1 c2 c3 f3 nd t0 t1 t2 s0 s1 s2 heq
  obtain ⟨cn,cs,c0,c1,c2,c3,f3⟩:=HRc.out.cells
  obtain ⟨nd,-⟩:=HRc.out.num hd
  rw [HD.out] at nd
  simp only at nd
  generalize wc=wa at *
  cases eqb with
  | true =>
   have HPe:Hid (putIn E B l d ⟨ph,pr,a⟩=⟨0,E,false,B,l⟩):=by unfold Hid; rw [HP.out,if_pos (stSame_true HQ.out)]
   go_wp2_with fail
   go_ret
   exact ⟨by rw [HPe.out]; rfl,by rw [HPe.out]; exact HRc.out,HKc.out _ (Kept.refl _ _)⟩
  | false =>
   have hne:=stSame_false HQ.out
   by_cases hfull:n=4294967295
   ·have HPe:Hid (putIn E B l d ⟨ph,pr,a⟩=⟨5,E,false,B,l⟩):=by unfold Hid; rw [HP.out,if_neg hne,if_pos hfull]
    have hge:(4294967296:Int)≤(n:Int)+1:=by omega
    have hge2:decide ((4294967296:Int)≤(n:Int)+1)=true:=decide_eq_true hge
    go_wp2_with fail
    go_ret
    exact ⟨by rw [HPe.out]; rfl,by rw [HPe.out]; exact HRc.out,HKc.out _ (Kept.refl _ _)⟩
   ·obtain ⟨k,Hk⟩:∃ k,Hid (nextK d n=k):=⟨_,rfl⟩
    have hk2:k=2 * d+(n+1) % 2:=Hk.out.symm
    have HPn:Hid (putIn E B l d ⟨ph,pr,a⟩=if (fill3 B l k (n+1) ⟨ph,pr,a⟩).c=0 then ⟨0,updE E d (n+1,⟨ph,pr,a⟩),false,(fill3 B l k (n+1) ⟨ph,pr,a⟩).b,(fill3 B l k (n+1) ⟨ph,pr,a⟩).l⟩
      else ⟨(fill3 B l k (n+1) ⟨ph,pr,a⟩).c,E,true,(fill3 B l k (n+1) ⟨ph,pr,a⟩).b,(fill3 B l k (n+1) ⟨ph,pr,a⟩).l⟩):=by
     unfold Hid; rw [HP.out,if_neg hne,if_neg hfull,Hk.out]
    have hmod:((n:Int)+1).tmod 2=(((n+1) % 2:Nat):Int):=by rw [Int.tmod_eq_emod_of_nonneg (by omega)]; omega
    have hge:¬ (4294967296:Int)≤(n:Int)+1:=by omega
    have hge2:decide ((4294967296:Int)≤(n:Int)+1)=false:=decide_eq_false hge
    go_wp2_with fail
    have e1:((2 * (d:Int)+((n:Int)+1) % 2) * 18)=((18 * k:Nat):Int):=by omega
    have e2:((2 * (d:Int)+((n:Int)+1) % 2) * 18+18 - 1)=((18 * k+17:Nat):Int):=by omega
    rw [e2,e1]
    have hk12:k<12:=by omega
    clear e1 e2 hge2 hge hmod
    obtain ⟨c0,HC0⟩:∃ c,Hid (rC B l ((18 * k+17:Nat):Int) 1=c):=⟨_,rfl⟩
    have hs6:=HRc.out.s6
    have hsz:=HRc.out.sz
    have HC0e:Hid (c0=if l=-2 then 6 else 0):=by
     unfold Hid; rw [← HC0.out]; unfold rC; rw [if_neg (by omega)]
    obtain ⟨za,Hza⟩:∃ z,Hid (18 * k=z):=⟨_,rfl⟩
    obtain ⟨ze,Hze⟩:∃ z,Hid (18 * k+17=z):=⟨_,rfl⟩
    rw [Hze.out] at HC0
    rw [Hze.out,Hza.out]
    have hze:ze<B.size:=by rw [← Hze.out]; omega
    have ix:=idx_str B ze (ze:Int) hze rfl
    have HX:Hid (B.data.toList[18 * k+17]? = some (B[ze]'hze)):=by unfold Hid; rw [Hze.out,List.getElem?_eq_getElem hze,getB hze]
    obtain ⟨x,Hxx⟩:∃ x,Hid (B[ze]'hze=x):=⟨_,rfl⟩
    rw [Hxx.out] at ix HX
    obtain ⟨nz,Hnz⟩:∃ b:Bool,Hid (decide (¬ l=-2∧x.toNat≠0)=b):=⟨_,hid (Eq.refl _)⟩
    have br:=HRc.out.bytes
    refine (error_rk (ze:Int) 1 c0 HRc.out HC0.out).mono ?_
    rintro e wx ⟨rfl,hx⟩
    subst wx
    go_upto_region 15 with fail
    go_cut [96] from 11 (fun s96 wx=>s96=.bool nz∧wa=wx)
    case first =>
     by_cases hl2:l=-2
     ·have h6:c0=6:=by rw [HC0e.out,if_pos hl2]
      subst h6
      go_wp2_with fail
      go_meet
      exact ⟨by rw [← Hnz.out,decide_eq_false (fun g=>g.1 hl2)],rfl⟩
     ·have h6:c0=0:=by rw [HC0e.out,if_neg hl2]
      subst h6
      have hbx:=UInt8.toNat_lt x
      go_wp2_with fail
      go_meet
      refine ⟨congrArg Value.bool ?_,rfl⟩
      rw [← Hnz.out]
      apply Bool.eq_iff_iff.2
      simp only [bne_iff_ne,ne_eq,decide_eq_true_eq]
      omega
    obtain ⟨rfl,rfl⟩:=hcut
    have HNE:Hid (w.heap.size≠m∧w.heap.size≠gn∧w.heap.size≠gs∧w.heap.size≠r):=⟨by omega,by omega,by omega,by omega⟩
    have HNI:Hid (¬ In4 m gn gs r w.heap.size):=fun e=>by unfold In4 at e; omega
    clear ix br
    go_upto_if 96 with fail
    go_cut [10] from 11 (fun s10 wx=>s10=.int .i64 ((fill1 B l k).c:Int)∧Stage w wa wx m gn gs r E (fill1 B l k) ph pr a)
    case first =>
     cases nz with
     | false =>
      have HF1:Hid (fill1 B l k=⟨c0,B,l⟩):=by
       unfold Hid fill1
       by_cases hl2:l=-2
       ·rw [if_pos hl2,HC0e.out,if_pos hl2]
       ·have hx0:x.toNat=0:=Classical.byContradiction fun g=>of_decide_eq_false Hnz.out ⟨hl2,g⟩
        have hx1:x=0:=UInt8.toNat_inj.1 hx0
        rw [if_neg hl2,HX.out,hx1,if_pos rfl,HC0e.out,if_neg hl2]
      go_wp2_with fail
      go_meet
      exact ⟨by rw [HF1.out],by rw [HF1.out]; exact ⟨HRc.out,Kept.refl _ _,HSc.out⟩⟩
     | true =>
      obtain ⟨hl2,hx0⟩:=of_decide_eq_true Hnz.out
      have HF1:Hid (fill1 B l k=wOut B (bA [0]) l ze):=by
       unfold Hid fill1
       rw [if_neg hl2,HX.out,if_neg (fun g=>hx0 (by rw [Option.some.inj g]; rfl)),Hze.out]
      obtain ⟨o1,HO1⟩:∃ c,Hid (wC B (bA [0]) l (ze:Int)=c):=⟨_,rfl⟩
      clear hl2 hx0
      go_wp2_with fail
      go_region_held3 (fun w'=>w'.cell? ⟨m,0,none⟩=some (.pointer (some ⟨r,0,none⟩))) (go_keep) (first|(go_at_call 185; (with_reducible refine (byte0 _).mono ?_); rintro e wn ⟨rfl,hbn⟩; have HBn:Hid (Below wa.heap.size wa wn):=((Below.refl _ wa).drew).trans hbn; have HRn:=hid (HRc.out.later HBn.out); have cn0:=HRn.out.cells.choose_spec.choose_spec.1; clear hbn)|(go_at_call 201; (with_reducible refine (write_rk (bA [0]) _ o1 HRn.out HO1.out).mono ?_); rintro e wm ⟨rfl,hrm,hkm⟩; have HRm:=hid hrm; have HKm:=hid ((Kept.of_below HBn.out).trans hkm); have cm0:=hrm.cells.choose_spec.choose_spec.1; have HSm:=hid (HKm.out.row HSc.out HNI.out); clear hrm hkm))
      all_goals go_step
      all_goals go_step
      all_goals go_meet
      all_goals exact ⟨by rw [HF1.out]; exact congrArg (fun c:Nat=>Value.int .i64 (c:Int)) HO1.out.symm,by rw [HF1.out]; exact ⟨HRm.out,HKm.out,HSm.out⟩⟩
    obtain ⟨rfl,hst⟩:=hcut
    obtain ⟨hr1,hk1,hs1⟩:=hst
    have HR1:=hid hr1
    have HK1:=hid hk1
    have HS1:=hid hs1
    clear hr1 hk1 hs1 c1 c2 c3 f3 nd
    have HF2:Hid (fill2 B l k (n+1) ⟨ph,pr,a⟩=if (fill1 B l k).c=0 then wOut (fill1 B l k).b (bA (bodyL (n+1) ⟨ph,pr,a⟩)) (fill1 B l k).l (18 * k) else fill1 B l k):=rfl
    have HF3:Hid (fill3 B l k (n+1) ⟨ph,pr,a⟩=if (fill2 B l k (n+1) ⟨ph,pr,a⟩).c=0 then wOut (fill2 B l k (n+1) ⟨ph,pr,a⟩).b (bA [165]) (fill2 B l k (n+1) ⟨ph,pr,a⟩).l (18 * k+17) else fill2 B l k (n+1) ⟨ph,pr,a⟩):=rfl
    rw [Hza.out] at HF2
    rw [Hze.out] at HF3
    obtain ⟨⟨o1,B1,l1⟩,HO1⟩:∃ o,Hid (fill1 B l k=o):=⟨_,rfl⟩
    rw [HO1.out] at HF2 HR1 ⊢
    simp only at HF2 HR1 ⊢
    obtain ⟨q0,q1,q2,q3,q4,q5,q6⟩:=HR1.out.cells
    by_cases h1:o1=0
    ·subst h1
     rw [if_pos rfl] at HF2
     obtain ⟨bs,Hbs⟩:∃ s,Hid (bA (bodyL (n+1) ⟨ph,pr,a⟩)=s):=⟨_,rfl⟩
     rw [Hbs.out] at HF2
     obtain ⟨o2,HO2⟩:∃ c,Hid (wC B1 bs l1 (za:Int)=c):=⟨_,rfl⟩
     have HF2c:Hid ((fill2 B l k (n+1) ⟨ph,pr,a⟩).c=o2):=by rw [HF2.out]; exact HO2.out
     have v0:wc.cell? ⟨w.heap.size,0,none⟩=some (.int .i64 (ph:Int)):=by rw [cell_of_row _ _ _ _ _ _ HS1.out]; rfl
     have v1:wc.cell? ⟨w.heap.size,1,none⟩=some (.int .i64 (pr:Int)):=by rw [cell_of_row _ _ _ _ _ _ HS1.out]; rfl
     have v2:wc.cell? ⟨w.heap.size,2,none⟩=some (.int .i64 (a:Int)):=by rw [cell_of_row _ _ _ _ _ _ HS1.out]; rfl
     have HKP:Hid (∀ wx,Below wc.heap.size wc wx→wx.cell? ⟨m,0,none⟩=some (.pointer (some ⟨r,0,none⟩))∧wx.cell? ⟨w.heap.size,0,none⟩=some (.int .i64 (ph:Int))∧wx.cell? ⟨w.heap.size,1,none⟩=some (.int .i64 (pr:Int))∧wx.cell? ⟨w.heap.size,2,none⟩=some (.int .i64 (a:Int))):=fun wx hx=>by
      have hs:=(hx.block _ (row_ltJ HS1.out)).trans HS1.out
      refine ⟨(HR1.out.later hx).cells.choose_spec.choose_spec.1,?_,?_,?_⟩
      all_goals (rw [cell_of_row _ _ _ _ _ _ hs]; rfl)
     have HZ0:Hid (((n:Int)+1)=((n+1:Nat):Int)):=by unfold Hid; omega
     go_wp2_with fail
     go_region_held3 (fun w'=>w'.cell? ⟨m,0,none⟩=some (.pointer (some ⟨r,0,none⟩))∧w'.cell? ⟨w.heap.size,0,none⟩=some (.int .i64 (ph:Int))∧w'.cell? ⟨w.heap.size,1,none⟩=some (.int .i64 (pr:Int))∧w'.cell? ⟨w.heap.size,2,none⟩=some (.int .i64 (a:Int))) (go_keep) (first|(go_at_call 184; (with_reducible refine (body_z (n+1) ph pr a bs _ _ HZ0.out (by omega) (by omega) (by omega) (by omega) Hbs.out).mono ?_); rintro e wn ⟨rfl,hbn⟩; have HBn:Hid (Below wc.heap.size wc wn):=((Below.refl _ wc).drew).trans hbn; have HRn:=hid (HR1.out.later HBn.out); obtain ⟨cn0,cn1,cn2,cn3⟩:=HKP.out wn HBn.out; clear hbn)|(go_at_call 201; (with_reducible refine (write_rk bs _ o2 HRn.out HO2.out).mono ?_); rintro e wm ⟨rfl,hrm,hkm⟩; have HRm:=hid hrm; have HKm:=hid ((Kept.of_below HBn.out).trans hkm); have cm0:=hrm.cells.choose_spec.choose_spec.1; have HSm:=hid (HKm.out.row HS1.out HNI.out); have cm1:wm.cell? ⟨w.heap.size,0,none⟩=some (.int .i64 (ph:Int)):=(by rw [cell_of_row _ _ _ _ _ _ HSm.out]; rfl); have cm2:wm.cell? ⟨w.heap.size,1,none⟩=some (.int .i64 (pr:Int)):=(by rw [cell_of_row _ _ _ _ _ _ HSm.out]; rfl); have cm3:wm.cell? ⟨w.heap.size,2,none⟩=some (.int .i64 (a:Int)):=(by rw [cell_of_row _ _ _ _ _ _ HSm.out]; rfl); clear hrm hkm))
     obtain ⟨B2,HB2⟩:∃ x,Hid (wB B1 bs l1 (za:Int)=x):=⟨_,rfl⟩
     obtain ⟨l2,HL2⟩:∃ x,Hid (wL B1 bs l1 (za:Int)=x):=⟨_,rfl⟩
     rw [HB2.out,HL2.out] at HRm
     have HF2e:Hid (fill2 B l k (n+1) ⟨ph,pr,a⟩=⟨o2,B2,l2⟩):=by
      unfold Hid; rw [HF2.out]; unfold wOut; rw [HO2.out,HB2.out,HL2.out]
     rw [HF2e.out] at HF3
     simp only at HF3
     have HKM:=hid (HK1.out.trans HKm.out)
     clear HKP HRn HBn cn0 cn1 cn2 cn3 cm1 cm2 cm3 v0 v1 v2 q2 q3 q4 q5 q6
     by_cases h2:o2=0
     ·subst h2
      rw [if_pos rfl] at HF3
      obtain ⟨o3,HO3⟩:∃ c,Hid (wC B2 (bA [165]) l2 (ze:Int)=c):=⟨_,rfl⟩
      obtain ⟨B3,HB3⟩:∃ x,Hid (wB B2 (bA [165]) l2 (ze:Int)=x):=⟨_,rfl⟩
      obtain ⟨l3,HL3⟩:∃ x,Hid (wL B2 (bA [165]) l2 (ze:Int)=x):=⟨_,rfl⟩
      have HF3e:Hid (fill3 B l k (n+1) ⟨ph,pr,a⟩=⟨o3,B3,l3⟩):=by
       unfold Hid; rw [HF3.out]; unfold wOut; rw [HO3.out,HB3.out,HL3.out]
      generalize wm=wd at *
      go_step
      go_wp2_with fail
      go_region_held3 (fun w'=>w'.cell? ⟨m,0,none⟩=some (.pointer (some ⟨r,0,none⟩))) (go_keep) (first|(go_at_call 185; (with_reducible refine (byte165 _).mono ?_); rintro e wn ⟨rfl,hbn⟩; have HBn:Hid (Below wd.heap.size wd wn):=((Below.refl _ wd).drew).trans hbn; have HRn:=hid (HRm.out.later HBn.out); have cn0:=HRn.out.cells.choose_spec.choose_spec.1; clear hbn)|(go_at_call 201; (with_reducible refine (write_rk (bA [165]) _ o3 HRn.out HO3.out).mono ?_); rintro e wm ⟨rfl,hrm,hkm⟩; have HR3:=hid hrm; have HK3:=hid ((Kept.of_below HBn.out).trans hkm); have ck0:=hrm.cells.choose_spec.choose_spec.1; have HS3:=hid (HK3.out.row HSm.out HNI.out); clear hrm hkm))
      rw [HB3.out,HL3.out] at HR3
      have HK4:=hid (HKM.out.trans HK3.out)
      obtain ⟨j1,j2,j3,j4,j5,j6,j7⟩:=HR3.out.cells
      by_cases h3:o3=0
      ·subst h3
       have HPe:Hid (putIn E B l d ⟨ph,pr,a⟩=⟨0,updE E d (n+1,⟨ph,pr,a⟩),false,B3,l3⟩):=by unfold Hid; rw [HPn.out,HF3e.out,if_pos rfl]
       have HPU:=hid (HR3.out.put hd (n+1) ⟨ph,pr,a⟩ ((n:Int)+1) (by omega))
       obtain ⟨nd1,nd2⟩:=HR3.out.num hd
       obtain ⟨u0,u1,u2,u3⟩:=HR3.out.st hd
       have u30:=u3 (d * 3)
       have u31:=u3 (d * 3+1)
       have u32:=u3 (d * 3+2)
       have v0:wm.cell? ⟨w.heap.size,0,none⟩=some (.int .i64 (ph:Int)):=by rw [cell_of_row _ _ _ _ _ _ HS3.out]; rfl
       have v1:wm.cell? ⟨w.heap.size,1,none⟩=some (.int .i64 (pr:Int)):=by rw [cell_of_row _ _ _ _ _ _ HS3.out]; rfl
       have v2:wm.cell? ⟨w.heap.size,2,none⟩=some (.int .i64 (a:Int)):=by rw [cell_of_row _ _ _ _ _ _ HS3.out]; rfl
       have n1:=HR3.out.rj.mn
       have n2:=HR3.out.rj.ms
       have n3:=HR3.out.rj.ns
       obtain ⟨n4,n5,n6,n7⟩:=HNE.out
       clear u3
       go_step
       go_wp2_with fail
       obtain ⟨X5,HX5⟩:∃ X,Hid (wm.setCell ⟨gn,d,none⟩ (.int .i64 ((n:Int)+1))=X):=⟨_,rfl⟩
       have HK5:Hid (Kept (In1 gn) wm X5):=by rw [← HX5.out]; exact (Kept.refl _ _).set1 d _
       rw [HX5.out] at HPU ⊢
       obtain ⟨T0,T1,-⟩:=HR3.out.rj.sts
       have k2:=keptC HK5.out j5 n1
       have k3:=keptC HK5.out u0 n3.symm
       have k4:=keptC HK5.out u1 n3.symm
       have k5:=keptC HK5.out u2 n3.symm
       have k6:=keptC HK5.out v0 n5
       have k7:=keptC HK5.out v1 n5
       have k8:=keptC HK5.out v2 n5
       have z3:=(keptF (i:=d * 3) HK5.out T1 n3.symm).trans u30
       have z4:=(keptF (i:=d * 3+1) HK5.out T1 n3.symm).trans u31
       have z5:=(keptF (i:=d * 3+2) HK5.out T1 n3.symm).trans u32
       clear u0 u1 u2 v0 v1 v2 u30 u31 u32 nd1 nd2 j3 j4 j5 j6 j7 T1
       go_region
       all_goals go_wp2_with fail
       all_goals go_ret
       all_goals exact ⟨by rw [HPe.out]; rfl,by rw [HPe.out]; exact HPU.out.1.drew,HKc.out _ (HK4.out.trans HPU.out.2.drew)⟩
      ·have HPe:Hid (putIn E B l d ⟨ph,pr,a⟩=⟨o3,E,true,B3,l3⟩):=by unfold Hid; rw [HPn.out,HF3e.out,if_neg h3]
       have g2:decide ((0:Int)<(o3:Int))=true:=decide_eq_true (by omega)
       have HDi:=hid HR3.out.die
       go_step
       go_wp2_with fail
       go_ret
       exact ⟨by rw [HPe.out]; rfl,by rw [HPe.out]; exact HDi.out.1,HKc.out _ (HK4.out.trans HDi.out.2)⟩
     ·have HE3:Hid (fill3 B l k (n+1) ⟨ph,pr,a⟩=⟨o2,B2,l2⟩):=by unfold Hid; rw [HF3.out,if_neg h2]
      have HPe:Hid (putIn E B l d ⟨ph,pr,a⟩=⟨o2,E,true,B2,l2⟩):=by unfold Hid; rw [HPn.out,HE3.out,if_neg h2]
      have g1:((o2:Int) == 0)=false:=by simp; omega
      have g2:decide ((0:Int)<(o2:Int))=true:=decide_eq_true (by omega)
      obtain ⟨j1,j2,j3,j4,j5,j6,j7⟩:=HRm.out.cells
      have HDi:=hid HRm.out.die
      go_step
      go_wp2_with fail
      go_ret
      exact ⟨by rw [HPe.out]; rfl,by rw [HPe.out]; exact HDi.out.1,HKc.out _ (HKM.out.trans HDi.out.2)⟩
    ·have HE3:Hid (fill3 B l k (n+1) ⟨ph,pr,a⟩=⟨o1,B1,l1⟩):=by
      unfold Hid; rw [HF3.out,HF2.out,if_neg h1]; simp only; rw [if_neg h1]
     have HPe:Hid (putIn E B l d ⟨ph,pr,a⟩=⟨o1,E,true,B1,l1⟩):=by unfold Hid; rw [HPn.out,HE3.out,if_neg h1]
     have g1:((o1:Int) == 0)=false:=by simp; omega
     have g2:decide ((0:Int)<(o1:Int))=true:=decide_eq_true (by omega)
     have HDi:=hid HR1.out.die
     go_wp2_with fail
     go_ret
     exact ⟨by rw [HPe.out]; rfl,by rw [HPe.out]; exact HDi.out.1,HKc.out _ (HK1.out.trans HDi.out.2)⟩
end
end Go.Proofs.YtadhpkopkkjmfaaGreatDoor
