/-
  On the way to ActsProof: RV RW RY.
-/
import Derived.Test.YtkbbjkiinpimiaaDoorBj22
import Derived.Test.YtkbbjkiinpimiaaDoorBj21
set_option maxHeartbeats 8000000
set_option maxRecDepth 100000
namespace Go.Proofs.YtkbbjkiinpimiaaDoor
open Go.RowKit
end Go.Proofs.YtkbbjkiinpimiaaDoor
namespace Go.Proofs.YtkbbjkiinpimiaaDoor
open Go.RowKit
structure Apart (w0:World) (j p q m gn gs r:Nat):Prop where
 dis:∀ x,In3 j p q x→¬ In4 m gn gs r x
 low:∀ x,In4 m gn gs r x→w0.heap.size≤x
section
variable {w0 w w':World} {j p q m gn gs r:Nat} {E:Nat→Nat×St} {over dead:Bool} {B:ByteArray} {l:Int} {A:Nat→Addr}
theorem rput_any (dl ph pr a:Int) (o:POut) (ho:pOut E over B l dl ph pr a=o) (h:RK w m gn gs r E over B l) (hn:∀ d,d<6→(E d).1<4294967296) :
  Calls Tryd.prog 52 #[.pointer (some ⟨m,0,none⟩),.int .i64 dl,.agg #[.int .i64 ph,.int .i64 pr,.int .i64 a]] w fun e w'=>e=.returned (.int .i64 (o.c:Int))∧RK w' m gn gs r o.e o.over o.b o.l∧Kept (In4 m gn gs r) w w':=by
 subst ho
 unfold pOut
 cases over with
 | true =>
  rw [if_pos rfl]
  refine (rput_over dl ph pr a h).mono ?_
  rintro e w' ⟨rfl,hb⟩
  exact ⟨rfl,h.later hb,Kept.of_below hb⟩
 | false =>
  rw [if_neg (by decide)]
  by_cases hb:(0≤dl∧dl<6)∧fitsB ph pr a=true
  ·rw [if_pos hb]
   obtain ⟨d,h1,h2,h3,rfl,rfl,rfl,rfl⟩:=in_nat hb
   simp only [Int.toNat_natCast]
   exact rput_in d h1 h2 h3 h (by omega) hb.2 (hn d (by omega))
  ·rw [if_neg hb]
   refine (rput_bound dl ph pr a h hb).mono ?_
   rintro e w' ⟨rfl,hb'⟩
   exact ⟨rfl,h.later hb',Kept.of_below hb'⟩
theorem RK.far {S:Nat→Prop} (h:RK w m gn gs r E over B l) (k:Kept S w w') (hd:∀ x,S x→¬ In4 m gn gs r x):RK w' m gn gs r E over B l :=
 h.kept k (fun e=>hd _ e (.inl rfl)) (fun e=>hd _ e (.inr (.inl rfl))) (fun e=>hd _ e (.inr (.inr (.inl rfl)))) (fun e=>hd _ e (.inr (.inr (.inr rfl))))
theorem rcut_rk (n:Int) (c:Nat) (l':Int) (h:RK w m gn gs r E over B l) (hn:n≤9223372036854775807) (hc:cC l n=c) (hl:cL l n=l') :
  Calls Tryd.prog 41 #[.pointer (some ⟨r,0,none⟩),.int .i64 n] w fun e w'=>e=.returned (.int .i64 (c:Int))∧RK w' m gn gs r E over B l'∧Kept (In4 m gn gs r) w w':=by
 subst hc hl
 obtain ⟨off,l2,cuts,p1,p2⟩:=h.rp
 refine (cut_rp r B l n l2 off cuts w p1 p2 hn).mono ?_
 rintro e w' ⟨rfl,hx,hk⟩
 exact ⟨rfl,⟨h.rj.kept hk (fun e=>h.rm e.symm) (fun e=>h.rn e.symm) (fun e=>h.rs e.symm),hx,h.rm,h.rn,h.rs,h.sz,h.s6⟩,hk.mono (fun k e=>.inr (.inr (.inr e)))⟩
theorem ron_rk (h:RK w m gn gs r E over B l) :
  Calls Tryd.prog 43 #[.pointer (some ⟨r,0,none⟩)] w fun e w'=>e=.returned (.tuple #[])∧RK w' m gn gs r E over B (-1)∧Kept (In4 m gn gs r) w w':=by
 obtain ⟨off,l2,cuts,p1,p2⟩:=h.rp
 refine (rpon_any r B off cuts l2 w p1).mono ?_
 rintro e w' ⟨rfl,hx,hk⟩
 exact ⟨rfl,⟨h.rj.kept hk (fun e=>h.rm e.symm) (fun e=>h.rn e.symm) (fun e=>h.rs e.symm),⟨false,l2,false,hx,.inr (.inl ⟨rfl,rfl,rfl⟩)⟩,h.rm,h.rn,h.rs,h.sz,h.s6⟩,hk.mono (fun k e=>.inr (.inr (.inr e)))⟩
theorem ropen_rk (h:RK w m gn gs r E over B l) :
  Calls Tryd.prog 51 #[.pointer (some ⟨r,0,none⟩)] w fun e w'=>∃ m' gn' gs',e=.returned (.pointer (some ⟨m',0,none⟩))∧RK w' m' gn' gs' r (dealL B.data.toList) false B l∧Below w.heap.size w w'∧w.heap.size≤m'∧w.heap.size≤gn'∧w.heap.size≤gs':=by
 obtain ⟨off,l2,cuts,p1,p2⟩:=h.rp
 have hl:=row_ltJ p1
 refine (ropen_any r B off cuts l2 w p1 h.sz h.s6).mono ?_
 rintro e w' ⟨m',gn',gs',rfl,hj,hb,b1,b2,b3⟩
 exact ⟨m',gn',gs',rfl,⟨hj,⟨off,l2,cuts,p1.kept (S:=fun _=>False) (Kept.of_below hb) (fun x=>x),p2⟩,by omega,by omega,by omega,h.sz,h.s6⟩,hb,b1,b2,b3⟩
end
def Both (w0 w:World) (p q r j m gn gs:Nat) (E:Nat→Nat×St) (over:Bool) (B:ByteArray) (l:Int):Prop :=
 JP w0 w j p q E over B l∧RK w m gn gs r E over B l∧Apart w0 j p q m gn gs r∧∀ d,d<6→(E d).1<4294967296
section
variable {w0 w w':World} {p q r j m gn gs:Nat} {E:Nat→Nat×St} {over:Bool} {B:ByteArray} {l:Int}
theorem Both.later (h:Both w0 w p q r j m gn gs E over B l) (hb:Below w.heap.size w w'):Both w0 w' p q r j m gn gs E over B l:=⟨h.1.later hb,h.2.1.later hb,h.2.2.1,h.2.2.2⟩
end
theorem wpAnyH_mono {P:Program} {md:Region.Mode} {ops:Array Oper} {Q:Exit→Act→World→Prop} {S T:World→Prop} (hST:∀ w,S w→T w):∀ (fuel:Nat) (listed:Array Bool) (a:Act) (w:World),wpAnyH P md ops Q S fuel listed a w→wpAnyH P md ops Q T fuel listed a w
 | 0,_,_,_,h=>h
 | fuel+1,_,_,_,h=>⟨h.1,fun i hi=>wpOp_mono (fun _ _ h2=>⟨hST _ h2.1,wpAnyH_mono hST fuel _ _ _ h2.2⟩) (h.2 i hi)⟩
theorem both_new {w0 w:World} {p q r j m gn gs:Nat} {B:ByteArray} {l:Int} (hj:JP w0 w j p q (dealL B.data.toList) false B l) (hm:RK w m gn gs r (dealL B.data.toList) false B l) (ha:Apart w0 j p q m gn gs r):Both w0 w p q r j m gn gs (dealL B.data.toList) false B l:=⟨hj,hm,ha,fun d _=>deal_lt _ d⟩
theorem apart_new {w0 w:World} {p q r j m gn gs:Nat} (hz:w0.heap.size≤w.heap.size) (h1:j<w.heap.size) (h2:p<w.heap.size) (h3:q<w.heap.size) (hr:w0.heap.size≤r) (b1:w.heap.size≤m) (b2:w.heap.size≤gn) (b3:w.heap.size≤gs) (d1:r≠j) (d2:r≠p) (d3:r≠q):Apart w0 j p q m gn gs r:=by
 constructor
 ·intro x hx hy
  unfold In3 at hx
  unfold In4 at hy
  omega
 ·intro x hx
  unfold In4 at hx
  omega
theorem JP.lts {w0 w:World} {p q j:Nat} {E:Nat→Nat×St} {over:Bool} {B:ByteArray} {l:Int} (h:JP w0 w j p q E over B l):j<w.heap.size∧p<w.heap.size∧q<w.heap.size:=⟨h.jr.lt,row_lt h.pl.head,row_lt h.pl.row⟩
theorem asj_any (A:Nat→Addr) (w:World) (j p m gn gs r:Nat) (E:Nat→Nat×St) (over dead:Bool) (B:ByteArray) (l:Int) (hE:Held9 w A) (hj:JR w j p E over) (hm:RK w m gn gs r E dead B l) :
  Calls Tryd.prog 53 #[.pointer (some ⟨j,0,none⟩),.pointer (some ⟨m,0,none⟩)] w fun e w'=>e=.returned (.bool true)∧Below w.heap.size w w':=by
 have HE:=hid hE
 have HJ:=hid hj
 have HM:=hid hm
 clear hE hj hm
 go_enter Tryd.func53,Tryd.ntmps53
 go_wp2_with fail
 go_loopw [5] (fun i wr=>∃ d:Nat,d≤6∧i=.int .i64 (d:Int)∧Below w.heap.size w wr) (fun i _=>6 - (intOf i).toNat)
 case atStart=>exact ⟨0,by omega,rfl,Below.refl _ _⟩
 case round =>
  obtain ⟨d,hd,rfl,hb⟩:=hrel
  have HB:=hid hb
  clear hb
  by_cases hlt:d<6
  ·obtain ⟨⟨h1,h2,h3⟩,HS⟩:∃ x,Hid ((E d).2=x):=⟨_,rfl⟩
   go_wp2_with fail
   refine (get_is j p d E over h1 h2 h3 wr (HJ.out.later HB.out HJ.out.lt) hlt HS.out).mono ?_
   rintro e w1 ⟨rfl,hb1⟩
   have HB1:=hid (HB.out.trans (hb1.mono HB.out.size))
   clear hb1
   obtain ⟨X,HX⟩:∃ X,Hid (w1.alloc (.cells #[.int .i64 (h1:Int),.int .i64 (h2:Int),.int .i64 (h3:Int)] 74)=X):=⟨_,rfl⟩
   have HBX:Hid (Below w.heap.size w X):=by rw [← HX.out]; exact HB1.out.alloc HB1.out.size _
   have HXS:Hid (X.heap[w1.heap.size]? = some (.cells #[.int .i64 (h1:Int),.int .i64 (h2:Int),.int .i64 (h3:Int)] 74 (0,0))):=by rw [← HX.out]; exact heap_alloc_new w1 _
   have HMX:=hid (HM.out.later HBX.out)
   go_wp2_with fail
   rw [HX.out]
   obtain ⟨cn,cs,c0,c1,c2,c3,f3⟩:=HMX.out.cells
   obtain ⟨t0,t1,t2,-⟩:=HMX.out.st hlt
   rw [HS.out] at t0 t1 t2
   simp only at t0 t1 t2
   have s0:X.cell? ⟨w1.heap.size,0,none⟩=some (.int .i64 (h1:Int)):=by rw [cell_of_row _ _ _ _ _ _ HXS.out]; rfl
   have s1:X.cell? ⟨w1.heap.size,1,none⟩=some (.int .i64 (h2:Int)):=by rw [cell_of_row _ _ _ _ _ _ HXS.out]; rfl
   have s2:X.cell? ⟨w1.heap.size,2,none⟩=some (.int .i64 (h3:Int)):=by rw [cell_of_row _ _ _ _ _ _ HXS.out]; rfl
   have hne:=st_neq (h1:Int) (h2:Int) (h3:Int)
   go_quiet (fail)
   all_goals go_wp2_with fail
   all_goals go_roundw
   case rel=>exact ⟨d+1,by omega,by go_num,below_drewN HBX.out _⟩
   case measure=>simp [intOf]; omega
  ·obtain rfl:d=6:=by omega
   go_wp2_with fail
   refine (get_isnt A _ (-1) wr (HE.out.later HB.out).toE (by omega)).mono ?_
   rintro e w1 ⟨rfl,hb1⟩
   have HB1:=hid (HB.out.trans (hb1.mono HB.out.size))
   clear hb1
   obtain ⟨X,HX⟩:∃ X,Hid (w1.alloc (.cells #[.int .i64 0,.int .i64 0,.int .i64 0] 74)=X):=⟨_,rfl⟩
   have HBX:Hid (Below w.heap.size w X):=by rw [← HX.out]; exact HB1.out.alloc HB1.out.size _
   have HXS:Hid (X.heap[w1.heap.size]? = some (.cells #[.int .i64 0,.int .i64 0,.int .i64 0] 74 (0,0))):=by rw [← HX.out]; exact heap_alloc_new w1 _
   go_wp2_with fail
   rw [HX.out]
   refine (get_isnt A _ 6 X (HE.out.later HBX.out).toE (by omega)).mono ?_
   rintro e w2 ⟨rfl,hb2⟩
   have HB2:=hid (HBX.out.trans (hb2.mono HBX.out.size))
   have HX2:=hid ((hb2.block _ (row_ltJ HXS.out)).trans HXS.out)
   clear hb2
   obtain ⟨Y,HY⟩:∃ X,Hid (w2.alloc (.cells #[.int .i64 0,.int .i64 0,.int .i64 0] 74)=X):=⟨_,rfl⟩
   have HBY:Hid (Below w.heap.size w Y):=by rw [← HY.out]; exact HB2.out.alloc HB2.out.size _
   have HYL:Hid (Below w2.heap.size w2 Y):=by rw [← HY.out]; exact (Below.refl _ _).alloc (Nat.le_refl _) _
   have HYS:Hid (Y.heap[w2.heap.size]? = some (.cells #[.int .i64 0,.int .i64 0,.int .i64 0] 74 (0,0))):=by rw [← HY.out]; exact heap_alloc_new w2 _
   have HYX:=hid ((HYL.out.block _ (row_ltJ HX2.out)).trans HX2.out)
   go_wp2_with fail
   rw [HY.out]
   refine (coded_ev A 2 Y (HE.out.later HBY.out) (by omega)).mono ?_
   rintro e w3 ⟨rfl,hb3⟩
   have HB3:=hid (HBY.out.trans (hb3.mono HBY.out.size))
   have HL3:=hid hb3
   clear hb3
   go_wp2_with fail
   refine (coded_ev A 2 w3 (HE.out.later HB3.out) (by omega)).mono ?_
   rintro e w4 ⟨rfl,hb4⟩
   have HB4:=hid (HB3.out.trans (hb4.mono HB3.out.size))
   have HL4:=hid (HL3.out.trans (hb4.mono HL3.out.size))
   clear hb4
   have r1:=(HL4.out.block _ (row_ltJ HYX.out)).trans HYX.out
   have r2:=(HL4.out.block _ (row_ltJ HYS.out)).trans HYS.out
   have a0:w4.cell? ⟨w1.heap.size,0,none⟩=some (.int .i64 0):=by rw [cell_of_row _ _ _ _ _ _ r1]; rfl
   have a1:w4.cell? ⟨w1.heap.size,1,none⟩=some (.int .i64 0):=by rw [cell_of_row _ _ _ _ _ _ r1]; rfl
   have a2:w4.cell? ⟨w1.heap.size,2,none⟩=some (.int .i64 0):=by rw [cell_of_row _ _ _ _ _ _ r1]; rfl
   have b0:w4.cell? ⟨w2.heap.size,0,none⟩=some (.int .i64 0):=by rw [cell_of_row _ _ _ _ _ _ r2]; rfl
   have b1:w4.cell? ⟨w2.heap.size,1,none⟩=some (.int .i64 0):=by rw [cell_of_row _ _ _ _ _ _ r2]; rfl
   have b2:w4.cell? ⟨w2.heap.size,2,none⟩=some (.int .i64 0):=by rw [cell_of_row _ _ _ _ _ _ r2]; rfl
   go_wp2_with fail
   go_ret
   exact ⟨rfl,HB4.out⟩
end Go.Proofs.YtkbbjkiinpimiaaDoor
