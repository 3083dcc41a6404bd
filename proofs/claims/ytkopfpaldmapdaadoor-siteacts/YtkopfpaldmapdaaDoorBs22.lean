/-
  On the way to SActsProof: RS.
-/
import Derived.Test.YtkopfpaldmapdaaDoorBs20
import Derived.Test.YtkopfpaldmapdaaDoorBs21
set_option maxHeartbeats 8000000
set_option maxRecDepth 100000
namespace Go.Proofs.YtkopfpaldmapdaaDoor
open Go.RowKit
def In4 (m gn gs r k:Nat):Prop:=k=m ∨ k=gn ∨ k=gs ∨ k=r
structure RK (w:World) (m gn gs r:Nat) (E:Nat→Nat×St) (dead:Bool) (B:ByteArray) (l:Int):Prop where
 rj:RJ w m gn gs r E dead
 rp:∃ off l' cuts,RP w r B off l' cuts∧Lk l off l' cuts
 rm:r≠m
 rn:r≠gn
 rs:r≠gs
 sz:B.size≤1000
 s6:216≤B.size
section
variable {w w':World} {m gn gs r:Nat} {E:Nat→Nat×St} {dead:Bool} {B B':ByteArray} {l l':Int}
theorem RJ.kept {S:Nat→Prop} (h:RJ w m gn gs r E dead) (k:Kept S w w') (h1:¬ S m) (h2:¬ S gn) (h3:¬ S gs):RJ w' m gn gs r E dead:=by
 obtain ⟨⟨cn,cs,r1⟩,⟨N,n1,n2⟩,⟨T,t1,t2⟩,a,b,c⟩:=h
 exact ⟨⟨cn,cs,k.row r1 h1⟩,⟨N,k.row n1 h2,n2⟩,⟨T,k.row t1 h3,t2⟩,a,b,c⟩
theorem RK.kept {S:Nat→Prop} (h:RK w m gn gs r E dead B l) (k:Kept S w w') (h1:¬ S m) (h2:¬ S gn) (h3:¬ S gs) (h4:¬ S r):RK w' m gn gs r E dead B l:=by
 obtain ⟨off,l',cuts,p1,p2⟩:=h.rp
 exact ⟨h.rj.kept k h1 h2 h3,⟨off,l',cuts,p1.kept k h4,p2⟩,h.rm,h.rn,h.rs,h.sz,h.s6⟩
theorem RK.later (h:RK w m gn gs r E dead B l) (hb:Below w.heap.size w w'):RK w' m gn gs r E dead B l:=h.kept (S:=fun _=>False) (Kept.of_below hb) (fun x=>x) (fun x=>x) (fun x=>x) (fun x=>x)
theorem RK.drew (h:RK w m gn gs r E dead B l):RK w.drew m gn gs r E dead B l:=h.later (Below.refl _ _).drew
theorem RK.lts (h:RK w m gn gs r E dead B l):m<w.heap.size∧gn<w.heap.size∧gs<w.heap.size∧r<w.heap.size:=by
 obtain ⟨⟨⟨cn,cs,r1⟩,⟨N,n1,_⟩,⟨T,t1,_⟩,_,_,_⟩,⟨off,l',cuts,p1,_⟩,_,_,_,_,_⟩:=h
 exact ⟨row_ltJ r1,row_ltJ n1,row_ltJ t1,row_ltJ p1⟩
theorem RK.bytes (h:RK w m gn gs r E dead B l):w.cell? ⟨r,0,none⟩=some (.string B):=by
 obtain ⟨off,l',cuts,p1,_⟩:=h.rp
 exact p1.c0
theorem RK.cells (h:RK w m gn gs r E dead B l):∃ cn cs,w.cell? ⟨m,0,none⟩=some (.pointer (some ⟨r,0,none⟩))∧w.cell? ⟨m,1,none⟩=some (.slice (some ⟨gn,0,none⟩) 6 cn)∧w.cell? ⟨m,2,none⟩=some (.slice (some ⟨gs,0,none⟩) 6 cs)∧w.cell? ⟨m,3,none⟩=some (.bool dead)∧w.frozen? ⟨m,3,none⟩=false:=by
 obtain ⟨cn,cs,r1⟩:=h.rj.row
 refine ⟨cn,cs,?_,?_,?_,?_,frozen_of_row w m 3 _ _ r1⟩
 all_goals rw [cell_of_row _ _ _ _ _ _ r1]; rfl
theorem RK.num (h:RK w m gn gs r E dead B l) {d:Nat} (hd:d<6):w.cell? ⟨gn,d,none⟩=some (.int .i64 ((E d).1:Int))∧w.frozen? ⟨gn,d,none⟩=false:=by
 obtain ⟨N,n1,n2⟩:=h.rj.nums
 exact ⟨by rw [cell_of_row _ _ _ _ _ _ n1]; exact n2 d hd,frozen_of_row w gn d _ _ n1⟩
theorem RK.st (h:RK w m gn gs r E dead B l) {d:Nat} (hd:d<6):w.cell? ⟨gs,d * 3,none⟩=some (.int .i64 ((E d).2.ph:Int))∧w.cell? ⟨gs,d * 3+1,none⟩=some (.int .i64 ((E d).2.pr:Int))∧w.cell? ⟨gs,d * 3+2,none⟩=some (.int .i64 ((E d).2.at_:Int))∧(∀ i,w.frozen? ⟨gs,i,none⟩=false):=by
 obtain ⟨T,t1,t2⟩:=h.rj.sts
 obtain ⟨a,b,c⟩:=t2 d hd
 refine ⟨?_,?_,?_,fun i=>frozen_of_row w gs i _ _ t1⟩
 all_goals (rw [cell_of_row _ _ _ _ _ _ t1]; assumption)
theorem write_rk (s:ByteArray) (a:Int) (c:Nat) (h:RK w m gn gs r E dead B l) (hc:wC B s l a=c) :
  Calls Tryd.prog 74 #[.pointer (some ⟨r,0,none⟩),.int .i64 a,.string s] w fun e w'=>e=.returned (.int .i64 (c:Int))∧RK w' m gn gs r E dead (wB B s l a) (wL B s l a)∧Kept (In4 m gn gs r) w w':=by
 rw [← hc]
 obtain ⟨off,l',cuts,p1,p2⟩:=h.rp
 refine (write_rp r B s l a l' off cuts w p1 p2 h.sz).mono ?_
 rintro e w' ⟨rfl,hx,hk⟩
 refine ⟨rfl,⟨h.rj.kept hk (fun e=>h.rm e.symm) (fun e=>h.rn e.symm) (fun e=>h.rs e.symm),hx,h.rm,h.rn,h.rs,by rw [wB_size]; exact h.sz,by rw [wB_size]; exact h.s6⟩,hk.mono (fun k e=>.inr (.inr (.inr e)))⟩
theorem error_rk (a n:Int) (c:Nat) (h:RK w m gn gs r E dead B l) (hc:rC B l a n=c) :
  Calls Tryd.prog 73 #[.pointer (some ⟨r,0,none⟩),.int .i64 a,.int .i64 n] w fun e w'=>e=.returned (.int .i64 (c:Int))∧w'=w:=by
 rw [← hc]
 obtain ⟨off,l',cuts,p1,p2⟩:=h.rp
 exact err_rp r B l a n l' off cuts w p1 p2 h.sz
theorem RK.die (h:RK w m gn gs r E dead B l):RK (w.setCell ⟨m,3,none⟩ (.bool true)) m gn gs r E true B l∧Kept (In4 m gn gs r) w (w.setCell ⟨m,3,none⟩ (.bool true)):=by
 have hk:Kept (In1 m) w (w.setCell ⟨m,3,none⟩ (.bool true)):=(Kept.refl _ _).set1 3 _
 obtain ⟨⟨⟨cn,cs,r1⟩,⟨N,n1,n2⟩,⟨T,t1,t2⟩,a,b,c⟩,⟨off,l',cuts,p1,p2⟩,rm,rn,rs,sz,s6⟩:=h
 refine ⟨⟨⟨⟨cn,cs,?_⟩,⟨N,hk.row n1 (fun e=>a e.symm),n2⟩,⟨T,hk.row t1 (fun e=>b e.symm),t2⟩,a,b,c⟩,⟨off,l',cuts,p1.kept hk (fun e=>rm e),p2⟩,rm,rn,rs,sz,s6⟩,hk.mono (fun k e=>.inl e)⟩
 exact heap_setCell_same w m 3 _ _ _ r1
theorem RK.put (h:RK w m gn gs r E dead B l) {d:Nat} (hd:d<6) (n:Nat) (s:St) (z:Int) (hz:z=(n:Int)) :
  RK ((((w.setCell ⟨gn,d,none⟩ (.int .i64 z)).setCell ⟨gs,d * 3,none⟩ (.int .i64 (s.ph:Int))).setCell ⟨gs,d * 3+1,none⟩ (.int .i64 (s.pr:Int))).setCell ⟨gs,d * 3+2,none⟩ (.int .i64 (s.at_:Int))) m gn gs r (updE E d (n,s)) dead B l ∧
   Kept (In4 m gn gs r) w ((((w.setCell ⟨gn,d,none⟩ (.int .i64 z)).setCell ⟨gs,d * 3,none⟩ (.int .i64 (s.ph:Int))).setCell ⟨gs,d * 3+1,none⟩ (.int .i64 (s.pr:Int))).setCell ⟨gs,d * 3+2,none⟩ (.int .i64 (s.at_:Int))):=by
 subst hz
 have k1:Kept (In1 gn) w (w.setCell ⟨gn,d,none⟩ (.int .i64 (n:Int))):=(Kept.refl _ _).set1 d _
 have k2:Kept (In1 gs) (w.setCell ⟨gn,d,none⟩ (.int .i64 (n:Int))) ((((w.setCell ⟨gn,d,none⟩ (.int .i64 (n:Int))).setCell ⟨gs,d * 3,none⟩ (.int .i64 (s.ph:Int))).setCell ⟨gs,d * 3+1,none⟩ (.int .i64 (s.pr:Int))).setCell ⟨gs,d * 3+2,none⟩ (.int .i64 (s.at_:Int))):=(((Kept.refl _ _).set1 (d * 3) _).set1 (d * 3+1) _).set1 (d * 3+2) _
 obtain ⟨⟨⟨cn,cs,r1⟩,⟨N,n1,n2⟩,⟨T,t1,t2⟩,a,b,c⟩,⟨off,l',cuts,p1,p2⟩,rm,rn,rs,sz,s6⟩:=h
 refine ⟨⟨⟨⟨cn,cs,k2.row (k1.row r1 a) b⟩,⟨N.setIfInBounds d (.int .i64 (n:Int)),k2.row (heap_setCell_same w gn d _ _ _ n1) c,?_⟩,⟨((T.setIfInBounds (d * 3) (.int .i64 (s.ph:Int))).setIfInBounds (d * 3+1) (.int .i64 (s.pr:Int))).setIfInBounds (d * 3+2) (.int .i64 (s.at_:Int)),?_,?_⟩,a,b,c⟩,⟨off,l',cuts,(p1.kept k1 rn).kept k2 rs,p2⟩,rm,rn,rs,sz,s6⟩,(k1.mono (fun k e=>.inr (.inl e))).trans (k2.mono (fun k e=>.inr (.inr (.inl e))))⟩
 ·intro e he
  unfold updE
  rw [Array.getElem?_setIfInBounds]
  have hl:∀ i x,N[i]? = some x→i<N.size:=fun i x hx=>(Array.getElem?_eq_some_iff.1 hx).1
  by_cases h1:d=e
  ·subst h1
   rw [if_pos rfl,if_pos (hl _ _ (n2 d hd)),if_pos rfl]
  ·rw [if_neg h1,n2 e he,if_neg (fun g=>h1 g.symm)]
 ·have q1:=heap_setCell_same (w.setCell ⟨gn,d,none⟩ (.int .i64 (n:Int))) gs (d * 3) T _ (.int .i64 (s.ph:Int)) (k1.row t1 (fun e=>c e.symm))
  have q2:=heap_setCell_same _ gs (d * 3+1) _ _ (.int .i64 (s.pr:Int)) q1
  exact heap_setCell_same _ gs (d * 3+2) _ _ (.int .i64 (s.at_:Int)) q2
 ·intro e he
  unfold updE
  have hl:∀ i x,T[i]? = some x→i<T.size:=fun i x hx=>(Array.getElem?_eq_some_iff.1 hx).1
  obtain ⟨u0,u1,u2⟩:=t2 e he
  have l0:=hl _ _ u0
  have l1:=hl _ _ u1
  have l2:=hl _ _ u2
  simp only [Array.getElem?_setIfInBounds,Array.size_setIfInBounds]
  by_cases h1:e=d
  ·subst h1
   rw [show (if e=e then (n,s) else E e)=(n,s) from if_pos rfl]
   refine ⟨?_,?_,?_⟩
   ·rw [if_neg (by omega),if_neg (by omega),if_pos rfl,if_pos l0]
   ·rw [if_neg (by omega),if_pos rfl,if_pos l1]
   ·rw [if_pos rfl,if_pos l2]
  ·rw [show (if e=d then (n,s) else E e)=E e from if_neg h1]
   refine ⟨?_,?_,?_⟩
   ·rw [if_neg (by omega),if_neg (by omega),if_neg (by omega)]; exact u0
   ·rw [if_neg (by omega),if_neg (by omega),if_neg (by omega)]; exact u1
   ·rw [if_neg (by omega),if_neg (by omega),if_neg (by omega)]; exact u2
end
end Go.Proofs.YtkopfpaldmapdaaDoor
namespace Go.Proofs.YtkopfpaldmapdaaDoor
open Go.RowKit
section
variable {w:World} {m gn gs r:Nat} {E:Nat→Nat×St} {B:ByteArray} {l:Int}
theorem rput_over (d ph pr a:Int) (h:RK w m gn gs r E true B l) :
  Calls Tryd.prog 48 #[.pointer (some ⟨m,0,none⟩),.int .i64 d,.agg #[.int .i64 ph,.int .i64 pr,.int .i64 a]] w fun e w'=>e=.returned (.int .i64 6)∧Below w.heap.size w w':=by
 obtain ⟨W,HW⟩:∃ W,Hid (w.alloc (.cells #[.int .i64 ph,.int .i64 pr,.int .i64 a] 34)=W):=⟨_,rfl⟩
 have HB:Hid (Below w.heap.size w W):=by rw [← HW.out]; exact (Below.refl _ _).alloc (Nat.le_refl _) _
 have HS:Hid (W.heap[w.heap.size]? = some (.cells #[.int .i64 ph,.int .i64 pr,.int .i64 a] 34 (0,0))):=by rw [← HW.out]; exact heap_alloc_new w _
 have hW:=HW.out
 obtain ⟨cn,cs,c0,c1,c2,c3,f3⟩:=(h.later HB.out).cells
 clear h
 go_enter Tryd.func48,Tryd.ntmps48
 go_wp2_with fail
 go_ret
 exact ⟨rfl,HB.out⟩
theorem rput_bound (d ph pr a:Int) (h:RK w m gn gs r E false B l) (hb:¬ ((0≤d∧d<6)∧fitsB ph pr a=true)) :
  Calls Tryd.prog 48 #[.pointer (some ⟨m,0,none⟩),.int .i64 d,.agg #[.int .i64 ph,.int .i64 pr,.int .i64 a]] w fun e w'=>e=.returned (.int .i64 2)∧Below w.heap.size w w':=by
 obtain ⟨W,HW⟩:∃ W,Hid (w.alloc (.cells #[.int .i64 ph,.int .i64 pr,.int .i64 a] 34)=W):=⟨_,rfl⟩
 have HB:Hid (Below w.heap.size w W):=by rw [← HW.out]; exact (Below.refl _ _).alloc (Nat.le_refl _) _
 have HS:Hid (W.heap[w.heap.size]? = some (.cells #[.int .i64 ph,.int .i64 pr,.int .i64 a] 34 (0,0))):=by rw [← HW.out]; exact heap_alloc_new w _
 have hW:=HW.out
 obtain ⟨cn,cs,c0,c1,c2,c3,f3⟩:=(h.later HB.out).cells
 have s0:W.cell? ⟨w.heap.size,0,none⟩=some (.int .i64 ph):=by rw [cell_of_row _ _ _ _ _ _ HS.out]; rfl
 have s1:W.cell? ⟨w.heap.size,1,none⟩=some (.int .i64 pr):=by rw [cell_of_row _ _ _ _ _ _ HS.out]; rfl
 have s2:W.cell? ⟨w.heap.size,2,none⟩=some (.int .i64 a):=by rw [cell_of_row _ _ _ _ _ _ HS.out]; rfl
 have HK:=hid hb
 clear h hb
 by_cases g0:d<0
 ·clear HK
  go_enter Tryd.func48,Tryd.ntmps48
  go_wp2_with fail
  go_ret
  exact ⟨rfl,HB.out⟩
 by_cases g1:6≤d
 ·clear HK
  go_enter Tryd.func48,Tryd.ntmps48
  go_wp2_with fail
  go_ret
  exact ⟨rfl,HB.out⟩
 by_cases g2:ph<0
 ·clear HK
  go_enter Tryd.func48,Tryd.ntmps48
  go_wp2_with fail
  go_ret
  exact ⟨rfl,HB.out⟩
 by_cases g3:255<ph
 ·clear HK
  go_enter Tryd.func48,Tryd.ntmps48
  go_wp2_with fail
  go_ret
  exact ⟨rfl,HB.out⟩
 by_cases g4:pr<0
 ·clear HK
  go_enter Tryd.func48,Tryd.ntmps48
  go_wp2_with fail
  go_ret
  exact ⟨rfl,HB.out⟩
 by_cases g5:1048576<pr
 ·clear HK
  go_enter Tryd.func48,Tryd.ntmps48
  go_wp2_with fail
  go_ret
  exact ⟨rfl,HB.out⟩
 by_cases g6:a<0
 ·clear HK
  go_enter Tryd.func48,Tryd.ntmps48
  go_wp2_with fail
  go_ret
  exact ⟨rfl,HB.out⟩
 by_cases g7:1048576<a
 ·clear HK
  go_enter Tryd.func48,Tryd.ntmps48
  go_wp2_with fail
  go_ret
  exact ⟨rfl,HB.out⟩
 exfalso
 apply HK.out
 unfold fitsB
 exact ⟨by omega,decide_eq_true (by omega)⟩
end
end Go.Proofs.YtkopfpaldmapdaaDoor
