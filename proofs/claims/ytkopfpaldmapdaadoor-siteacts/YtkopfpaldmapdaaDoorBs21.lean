/-
  On the way to SActsProof: JM.
-/
import Derived.Test.YtkopfpaldmapdaaDoorBs19
import Derived.Laws.StructEq
set_option maxHeartbeats 8000000
set_option maxRecDepth 100000
namespace Go.Proofs.YtkopfpaldmapdaaDoor
open Go.RowKit
structure POut where
 c:Nat
 e:Nat→Nat×St
 over:Bool
 b:ByteArray
 l:Int
def putIn (E:Nat→Nat×St) (B:ByteArray) (l:Int) (d:Nat) (s:St):POut :=
 @ite POut ((E d).2=s) (stEq (E d).2 s) ⟨0,E,false,B,l⟩ <| if (E d).1=4294967295 then ⟨5,E,false,B,l⟩
 else if (fill3 B l (nextK d (E d).1) ((E d).1+1) s).c=0 then ⟨0,updE E d ((E d).1+1,s),false,(fill3 B l (nextK d (E d).1) ((E d).1+1) s).b,(fill3 B l (nextK d (E d).1) ((E d).1+1) s).l⟩
 else ⟨(fill3 B l (nextK d (E d).1) ((E d).1+1) s).c,E,true,(fill3 B l (nextK d (E d).1) ((E d).1+1) s).b,(fill3 B l (nextK d (E d).1) ((E d).1+1) s).l⟩
def In3 (j p q k:Nat):Prop:=k=j ∨ k=p ∨ k=q
theorem place_z (d n r:Nat) (z:Int) (w:World) (hz:z=(n:Int)) (hd:d≤100) (hn:n<4294967296) (hr:18 * (2 * d+n % 2)=r) :
  Calls Tryd.prog 58 #[.int .i64 (d:Int),.int .u32 z] w fun e w'=>e=.returned (.int .i64 (r:Int))∧w'=w:=by
 subst hz; exact place_is d n r w hd hn hr
theorem slot_z (n ph p a:Nat) (z:Int) (w:World) (hz:z=(n:Int)) (hn:n<4294967296) (h1:ph<256) (h2:p<4294967296) (h3:a<4294967296) :
  Calls Tryd.prog 69 #[.agg #[.int .i64 (ph:Int),.int .i64 (p:Int),.int .i64 (a:Int),.int .u32 z]] w fun e w'=>e=.returned (.string (bA (bodyL n ⟨ph,p,a⟩ ++ [165])))∧Below w.heap.size w w':=by
 subst hz; exact slot_ag n ph p a w hn h1 h2 h3
section
variable (A:Nat→Addr) (w0 w:World) (j p q:Nat) (E:Nat→Nat×St) (B:ByteArray) (l:Int)
theorem fill_ok (over:Bool) (k n r:Nat) (s:St) (h:JP w0 w j p q E over B l) (hE:HeldE w0 A) (hk:k<12) (hr:18 * k=r) (hc:(fill3 B l k n s).c=0) :
  Calls Tryd.prog 68 #[.pointer (some ⟨j,0,none⟩),.int .i64 (r:Int),.string (bA (bodyL n s ++ [165]))] w fun e w'=>e=.returned .nilIface∧JP w0 w' j p q E over (fill3 B l k n s).b (fill3 B l k n s).l∧Kept (In2 p q) w w':=by
 have:=fill_any A w0 w j p q E over B l k n s h hE hk
 rw [hc,hr] at this
 exact this
theorem fill_no (over:Bool) (k n r:Nat) (s:St) (c:Nat) (h:JP w0 w j p q E over B l) (hE:HeldE w0 A) (hk:k<12) (hr:18 * k=r) (hc:(fill3 B l k n s).c=c+1) :
  Calls Tryd.prog 68 #[.pointer (some ⟨j,0,none⟩),.int .i64 (r:Int),.string (bA (bodyL n s ++ [165]))] w fun e w'=>e=.returned (.iface 189 (.pointer (some (A c))))∧JP w0 w' j p q E over (fill3 B l k n s).b (fill3 B l k n s).l∧Kept (In2 p q) w w':=by
 have:=fill_any A w0 w j p q E over B l k n s h hE hk
 rw [hc,hr] at this
 exact this
theorem put_over (d ph pr a:Int) (h:JP w0 w j p q E true B l) (hE:HeldE w0 A) :
  Calls Tryd.prog 44 #[.pointer (some ⟨j,0,none⟩),.int .i64 d,.agg #[.int .i64 ph,.int .i64 pr,.int .i64 a]] w fun e w'=>e=.returned (.iface 189 (.pointer (some (A 5))))∧JP w0 w' j p q E true B l∧Kept (In3 j p q) w w':=by
 have c:=h.jr.over
 have hj:=h.jr.lt
 have g5:=(h.held hE).g5
 have g5b:=cell_allocJ (o:=.cells #[.int .i64 ph,.int .i64 pr,.int .i64 a] 34) g5
 have HJ:=hid (h.later ((Below.refl _ _).alloc (Nat.le_refl _) (.cells #[.int .i64 ph,.int .i64 pr,.int .i64 a] 34)))
 clear h hE
 go_enter Tryd.func44,Tryd.ntmps44
 go_wp2_with fail
 go_ret
 exact ⟨rfl,HJ.out,kept_alloc _ _ _⟩
theorem put_bound (d ph pr a:Int) (h:JP w0 w j p q E false B l) (hE:HeldE w0 A) (hb:¬ ((0≤d∧d<6)∧fitsB ph pr a=true)) :
  Calls Tryd.prog 44 #[.pointer (some ⟨j,0,none⟩),.int .i64 d,.agg #[.int .i64 ph,.int .i64 pr,.int .i64 a]] w fun e w'=>e=.returned (.iface 189 (.pointer (some (A 1))))∧JP w0 w' j p q E false B l∧Kept (In3 j p q) w w':=by
 have c:=h.jr.over
 have hj:=h.jr.lt
 have g1:=(h.held hE).g1
 have g1b:=cell_allocJ (o:=.cells #[.int .i64 ph,.int .i64 pr,.int .i64 a] 34) g1
 have HJ:=hid (h.later ((Below.refl _ _).alloc (Nat.le_refl _) (.cells #[.int .i64 ph,.int .i64 pr,.int .i64 a] 34)))
 have HE:=hid hE
 clear h hE
 by_cases hd:0≤d∧d<6
 ·have hf:fitsB ph pr a=false:=by
   cases hx:fitsB ph pr a
   ·rfl
   ·exact absurd ⟨hd,hx⟩ hb
  have HK:=hid (decide_eq_true hd)
  have HF:=hid hf
  clear hb hf hd
  go_enter Tryd.func44,Tryd.ntmps44
  go_wp2_with (first|(go_at_call 60; refine (known_any d _).mono ?_; rw [HK.out]; rintro e wx ⟨rfl,hx⟩; subst wx)|(go_at_call 67; refine (fits_any ph pr a _).mono ?_; rw [HF.out]; rintro e w1 ⟨rfl,hb1⟩; have HJ1:=hid (HJ.out.later hb1); have K1:=hid ((kept_alloc (In3 j p q) w _).trans (Kept.of_below hb1)); have g1c:=(HJ1.out.held HE.out).g1; clear hb1))
  go_ret
  exact ⟨rfl,HJ1.out,K1.out⟩
 ·have HK:=hid (decide_eq_false hd)
  clear hb hd
  go_enter Tryd.func44,Tryd.ntmps44
  go_wp2_with (go_at_call 60; refine (known_any d _).mono ?_; rw [HK.out]; rintro e wx ⟨rfl,hx⟩; subst wx)
  go_ret
  exact ⟨rfl,HJ.out,kept_alloc _ _ _⟩
theorem put_in (d:Nat) (s:St) (h:JP w0 w j p q E false B l) (hE:HeldE w0 A) (hd:d<6) (hf:fitsB s.ph s.pr s.at_=true) (hn:(E d).1<4294967296) :
  Calls Tryd.prog 44 #[.pointer (some ⟨j,0,none⟩),.int .i64 (d:Int),.agg #[.int .i64 (s.ph:Int),.int .i64 (s.pr:Int),.int .i64 (s.at_:Int)]] w fun e w'=>e=.returned (ev A (putIn E B l d s).c)∧JP w0 w' j p q (putIn E B l d s).e (putIn E B l d s).over (putIn E B l d s).b (putIn E B l d s).l∧Kept (In3 j p q) w w':=by
 have HK:Hid (decide (0≤(d:Int)∧(d:Int)<6)=true):=decide_eq_true ⟨by omega,by omega⟩
 have HF:=hid hf
 have HE:=hid hE
 obtain ⟨O,HO⟩:∃ o,Hid (putIn E B l d s=o):=⟨_,rfl⟩
 rw [HO.out]
 obtain ⟨ph,pr,a⟩:=s
 obtain ⟨W,HW⟩:∃ W,Hid (w.alloc (.cells #[.int .i64 (ph:Int),.int .i64 (pr:Int),.int .i64 (a:Int)] 34)=W):=⟨_,rfl⟩
 have hW:=HW.out
 have HJ:Hid (JP w0 W j p q E false B l):=by rw [← HW.out]; exact h.later ((Below.refl _ _).alloc (Nat.le_refl _) _)
 have RW:Hid (W.heap[w.heap.size]? = some (.cells #[.int .i64 (ph:Int),.int .i64 (pr:Int),.int .i64 (a:Int)] 34 (0,0))):=by rw [← HW.out]; exact heap_alloc_new w _
 have cW:=HJ.out.jr.over
 have b0:W.cell? ⟨w.heap.size,0,none⟩=some (.int .i64 (ph:Int)):=by rw [cell_of_row _ _ _ _ _ _ RW.out]; rfl
 have b1:W.cell? ⟨w.heap.size,1,none⟩=some (.int .i64 (pr:Int)):=by rw [cell_of_row _ _ _ _ _ _ RW.out]; rfl
 have b2:W.cell? ⟨w.heap.size,2,none⟩=some (.int .i64 (a:Int)):=by rw [cell_of_row _ _ _ _ _ _ RW.out]; rfl
 have hsW:w.heap.size<W.heap.size:=row_ltJ RW.out
 clear h hE hf
 go_enter Tryd.func44,Tryd.ntmps44
 go_wp2_with (go_at_call 60; refine (known_any d _).mono ?_; rw [HK.out]; rintro e wx ⟨rfl,hx⟩; subst wx)
 refine (fits_any ph pr a _).mono ?_
 rw [HF.out]
 rintro e w1 ⟨rfl,hb1⟩
 have HJ1:=hid (HJ.out.later hb1)
 have K1:Hid (Kept (In3 j p q) w w1):=by
  have k0:Kept (In3 j p q) w W:=by rw [← HW.out]; exact kept_alloc _ _ _
  exact k0.trans (Kept.of_below hb1)
 have R1:=hid ((hb1.block _ hsW).trans RW.out)
 have hs1:w.heap.size<w1.heap.size:=row_ltJ R1.out
 clear hb1
 obtain ⟨⟨n,ph',pr',a'⟩,HEd⟩:∃ x,Hid (E d=x):=⟨_,rfl⟩
 have hj1:=HJ1.out.jr.lt
 obtain ⟨c0,c1,c2,c3⟩:=HJ1.out.jr.ent hd
 rw [HEd.out] at c0 c1 c2 c3 hn
 obtain ⟨X1,HX1⟩:∃ X,Hid (w1.alloc (.cells #[.int .i64 (ph':Int),.int .i64 (pr':Int),.int .i64 (a':Int),.int .u32 (n:Int)] 113)=X):=⟨_,rfl⟩
 have hX1:=HX1.out
 have HJX:Hid (JP w0 X1 j p q E false B l):=by rw [← HX1.out]; exact HJ1.out.later ((Below.refl _ _).alloc (Nat.le_refl _) _)
 have KX:Hid (Kept (In3 j p q) w X1):=by rw [← HX1.out]; exact K1.out.trans (kept_alloc _ _ _)
 have RX:Hid (X1.heap[w1.heap.size]? = some (.cells #[.int .i64 (ph':Int),.int .i64 (pr':Int),.int .i64 (a':Int),.int .u32 (n:Int)] 113 (0,0))):=by rw [← HX1.out]; exact heap_alloc_new w1 _
 have RB:Hid (X1.heap[w.heap.size]? = some (.cells #[.int .i64 (ph:Int),.int .i64 (pr:Int),.int .i64 (a:Int)] 34 (0,0))):=by rw [← HX1.out]; exact (Below.heap_alloc w1 _ _ hs1).trans R1.out
 have d0:X1.cell? ⟨w.heap.size,0,none⟩=some (.int .i64 (ph:Int)):=by rw [cell_of_row _ _ _ _ _ _ RB.out]; rfl
 have d1:X1.cell? ⟨w.heap.size,1,none⟩=some (.int .i64 (pr:Int)):=by rw [cell_of_row _ _ _ _ _ _ RB.out]; rfl
 have d2:X1.cell? ⟨w.heap.size,2,none⟩=some (.int .i64 (a:Int)):=by rw [cell_of_row _ _ _ _ _ _ RB.out]; rfl
 have o0:X1.cell? ⟨w1.heap.size,0,none⟩=some (.int .i64 (ph':Int)):=by rw [cell_of_row _ _ _ _ _ _ RX.out]; rfl
 have o1:X1.cell? ⟨w1.heap.size,1,none⟩=some (.int .i64 (pr':Int)):=by rw [cell_of_row _ _ _ _ _ _ RX.out]; rfl
 have o2:X1.cell? ⟨w1.heap.size,2,none⟩=some (.int .i64 (a':Int)):=by rw [cell_of_row _ _ _ _ _ _ RX.out]; rfl
 have o3:X1.cell? ⟨w1.heap.size,3,none⟩=some (.int .u32 (n:Int)):=by rw [cell_of_row _ _ _ _ _ _ RX.out]; rfl
 obtain ⟨eqb,HQ⟩:∃ b:Bool,Hid (stSame ⟨ph',pr',a'⟩ ⟨ph,pr,a⟩=b):=⟨_,hid (Eq.refl _)⟩
 go_upto_region 6 with fail
 go_cut [33] from 10 (fun s33 wx=>s33=.bool eqb∧X1=wx)
 case first =>
  go_wp2_with fail
  all_goals go_meet
  all_goals refine ⟨congrArg Value.bool ?_,rfl⟩
  all_goals rw [← HQ.out]
  all_goals show _=decide (ph'=ph∧pr'=pr∧a'=a)
  all_goals first|(refine (decide_eq_true ?_).symm; omega)|(refine (decide_eq_false ?_).symm; omega)
 case rest =>
  obtain ⟨rfl,rfl⟩:=hcut
  cases eqb with
  | true =>
   have e:(⟨ph',pr',a'⟩:St)=⟨ph,pr,a⟩:=stSame_true HQ.out
   have F:Hid (O=⟨0,E,false,B,l⟩):=by rw [← HO.out]; unfold Hid putIn; rw [HEd.out,if_pos e]
   go_wp2_with fail
   go_ret
   exact ⟨by rw [F.out]; rfl,by rw [F.out]; exact HJX.out,KX.out⟩
  | false =>
   have ne:¬ (⟨ph',pr',a'⟩:St)=⟨ph,pr,a⟩:=stSame_false HQ.out
   have hjc:=HJX.out.jr.lt
   by_cases hmax:n=4294967295
   ·have F:Hid (O=⟨5,E,false,B,l⟩):=by rw [← HO.out]; unfold Hid putIn; rw [HEd.out,if_neg ne,if_pos hmax]
    have g4:=(HJX.out.held HE.out).g4
    subst hmax
    go_wp2_with fail
    go_ret
    exact ⟨by rw [F.out]; rfl,by rw [F.out]; exact HJX.out,KX.out⟩
   ·obtain ⟨kk,HKK⟩:∃ k,Hid (nextK d n=k):=⟨_,rfl⟩
    obtain ⟨r,HR⟩:∃ r,Hid (18 * kk=r):=⟨_,rfl⟩
    have HRp:Hid (18 * (2 * d+(n+1) % 2)=r):=by rw [← HR.out,← HKK.out]; rfl
    have hk12:Hid (kk<12):=by rw [← HKK.out]; unfold Hid nextK; omega
    have hf:=of_decide_eq_true HF.out
    have L1:Hid (ph<256):=by unfold Hid; omega
    have L2:Hid (pr<4294967296):=by unfold Hid; omega
    have L3:Hid (a<4294967296):=by unfold Hid; omega
    have hn1:n+1<4294967296:=by omega
    have HN1:Hid (((n:Int)+1)=((n+1:Nat):Int)):=by unfold Hid; omega
    clear hf
    obtain ⟨Y,HY⟩:∃ Y,Hid (X1.alloc (.cells #[.int .i64 (ph:Int),.int .i64 (pr:Int),.int .i64 (a:Int),.int .u32 ((n:Int)+1)] 113)=Y):=⟨_,rfl⟩
    have hY:=HY.out
    have HJY:Hid (JP w0 Y j p q E false B l):=by rw [← HY.out]; exact HJX.out.later ((Below.refl _ _).alloc (Nat.le_refl _) _)
    have KY:Hid (Kept (In3 j p q) w Y):=by rw [← HY.out]; exact KX.out.trans (kept_alloc _ _ _)
    have RY:Hid (Y.heap[X1.heap.size]? = some (.cells #[.int .i64 (ph:Int),.int .i64 (pr:Int),.int .i64 (a:Int),.int .u32 ((n:Int)+1)] 113 (0,0))):=by rw [← HY.out]; exact heap_alloc_new X1 _
    have hep:Hid (X1.heap.size≠p∧X1.heap.size≠q∧X1.heap.size≠j):=⟨by have:=row_lt HJX.out.pl.head; omega,by have:=row_lt HJX.out.pl.row; omega,by omega⟩
    have y0:Y.cell? ⟨X1.heap.size,0,none⟩=some (.int .i64 (ph:Int)):=by rw [cell_of_row _ _ _ _ _ _ RY.out]; rfl
    have y1:Y.cell? ⟨X1.heap.size,1,none⟩=some (.int .i64 (pr:Int)):=by rw [cell_of_row _ _ _ _ _ _ RY.out]; rfl
    have y2:Y.cell? ⟨X1.heap.size,2,none⟩=some (.int .i64 (a:Int)):=by rw [cell_of_row _ _ _ _ _ _ RY.out]; rfl
    have y3:Y.cell? ⟨X1.heap.size,3,none⟩=some (.int .u32 ((n:Int)+1)):=by rw [cell_of_row _ _ _ _ _ _ RY.out]; rfl
    have hsY:X1.heap.size<Y.heap.size:=row_ltJ RY.out
    rcases hc:(fill3 B l kk (n+1) ⟨ph,pr,a⟩).c with _|c
    ·have HC:=hid hc
     have F:Hid (O=⟨0,updE E d (n+1,⟨ph,pr,a⟩),false,(fill3 B l kk (n+1) ⟨ph,pr,a⟩).b,(fill3 B l kk (n+1) ⟨ph,pr,a⟩).l⟩):=by
      rw [← HO.out]; unfold Hid putIn; rw [HEd.out,if_neg ne,if_neg hmax]; simp only []; rw [HKK.out,if_pos hc]
     clear hc
     go_upto_region 11 with fail
     go_cut [9] from 10 (fun s9 wx=>s9=.nilIface∧JP w0 wx j p q E false (fill3 B l kk (n+1) ⟨ph,pr,a⟩).b (fill3 B l kk (n+1) ⟨ph,pr,a⟩).l∧wx.heap[X1.heap.size]? = some (.cells #[.int .i64 (ph:Int),.int .i64 (pr:Int),.int .i64 (a:Int),.int .u32 ((n:Int)+1)] 113 (0,0))∧Kept (In3 j p q) w wx)
     case first =>
      go_region_held3 (fun w'=>w'.cell? ⟨X1.heap.size,0,none⟩=some (.int .i64 (ph:Int))∧w'.cell? ⟨X1.heap.size,1,none⟩=some (.int .i64 (pr:Int))∧w'.cell? ⟨X1.heap.size,2,none⟩=some (.int .i64 (a:Int))∧w'.cell? ⟨X1.heap.size,3,none⟩=some (.int .u32 ((n:Int)+1))) (go_keep) (first|(go_at_call 58; (with_reducible refine (place_z d (n+1) r _ _ HN1.out (by omega) hn1 HRp.out).mono ?_); rintro e wx ⟨rfl,hx⟩; subst wx)|(go_at_call 69; (with_reducible refine (slot_z (n+1) ph pr a _ _ HN1.out hn1 L1.out L2.out L3.out).mono ?_); rintro e w2 ⟨rfl,hb2⟩; have HJ2:=hid (HJY.out.drew.later hb2); have K2:=hid (KY.out.drew.trans (Kept.of_below hb2)); have R2:=hid ((hb2.block _ hsY).trans RY.out); have z0:=(hb2.cell (p:=⟨X1.heap.size,0,none⟩) hsY).trans y0; have z1:=(hb2.cell (p:=⟨X1.heap.size,1,none⟩) hsY).trans y1; have z2:=(hb2.cell (p:=⟨X1.heap.size,2,none⟩) hsY).trans y2; have z3:=(hb2.cell (p:=⟨X1.heap.size,3,none⟩) hsY).trans y3; clear hb2)|(go_at_call 68; (with_reducible refine (fill_ok A w0 _ j p q E B l false kk (n+1) r ⟨ph,pr,a⟩ HJ2.out HE.out hk12.out HR.out HC.out).mono ?_); rintro e w3 ⟨rfl,h3,k3⟩; have HJ3:=hid h3; have K3:=hid (K2.out.trans (k3.mono (fun k g=>Or.inr g))); have R3:=hid (k3.row R2.out (fun g=>g.elim hep.out.1 hep.out.2.1)); have t0:w3.cell? ⟨X1.heap.size,0,none⟩=some (.int .i64 (ph:Int)):=(cell_of_row _ _ _ _ _ _ R3.out).trans rfl; have t1:w3.cell? ⟨X1.heap.size,1,none⟩=some (.int .i64 (pr:Int)):=(cell_of_row _ _ _ _ _ _ R3.out).trans rfl; have t2:w3.cell? ⟨X1.heap.size,2,none⟩=some (.int .i64 (a:Int)):=(cell_of_row _ _ _ _ _ _ R3.out).trans rfl; have t3:w3.cell? ⟨X1.heap.size,3,none⟩=some (.int .u32 ((n:Int)+1)):=(cell_of_row _ _ _ _ _ _ R3.out).trans rfl; clear h3 k3))
      all_goals go_step
      all_goals go_step
      all_goals go_meet
      all_goals exact ⟨rfl,HJ3.out,R3.out,K3.out⟩
     case rest =>
      obtain ⟨rfl,h3,r3,k3⟩:=hcut
      have K3:=hid k3
      have HJ3:=hid h3
      have R3:=hid r3
      obtain ⟨c0,c1,c2,c3⟩:=h3.jr.ent hd
      have f0:=h3.jr.fz (1+d * 4)
      have f1:=h3.jr.fz (1+d * 4+1)
      have f2:=h3.jr.fz (1+d * 4+2)
      have f3:=h3.jr.fz (1+d * 4+3)
      have t0:wc.cell? ⟨X1.heap.size,0,none⟩=some (.int .i64 (ph:Int)):=by rw [cell_of_row _ _ _ _ _ _ R3.out]; rfl
      have t1:wc.cell? ⟨X1.heap.size,1,none⟩=some (.int .i64 (pr:Int)):=by rw [cell_of_row _ _ _ _ _ _ R3.out]; rfl
      have t2:wc.cell? ⟨X1.heap.size,2,none⟩=some (.int .i64 (a:Int)):=by rw [cell_of_row _ _ _ _ _ _ R3.out]; rfl
      have t3:wc.cell? ⟨X1.heap.size,3,none⟩=some (.int .u32 ((n:Int)+1)):=by rw [cell_of_row _ _ _ _ _ _ R3.out]; rfl
      have hne:=hep.out.2.2
      clear h3 r3 k3
      go_wp2_with fail
      go_region
      all_goals go_wp2_with fail
      go_ret
      exact ⟨by rw [F.out]; rfl,by rw [F.out]; exact (HJ3.out.own (((((Kept.refl _ wc).set1 _ _).set1 _ _).set1 _ _).set1 _ _) (HJ3.out.jr.set hd (n+1,⟨ph,pr,a⟩))).drew,((((K3.out.setCell (.inl rfl) _).setCell (.inl rfl) _).setCell (.inl rfl) _).setCell (.inl rfl) _).drew⟩
    ·have HC:=hid hc
     have F:Hid (O=⟨c+1,E,true,(fill3 B l kk (n+1) ⟨ph,pr,a⟩).b,(fill3 B l kk (n+1) ⟨ph,pr,a⟩).l⟩):=by
      rw [← HO.out]; unfold Hid putIn; rw [HEd.out,if_neg ne,if_neg hmax]; simp only []; rw [HKK.out,if_neg (by omega),hc]
     clear hc
     go_upto_region 11 with fail
     go_cut [9] from 10 (fun s9 wx=>s9=.iface 189 (.pointer (some (A c)))∧JP w0 wx j p q E false (fill3 B l kk (n+1) ⟨ph,pr,a⟩).b (fill3 B l kk (n+1) ⟨ph,pr,a⟩).l∧wx.heap[X1.heap.size]? = some (.cells #[.int .i64 (ph:Int),.int .i64 (pr:Int),.int .i64 (a:Int),.int .u32 ((n:Int)+1)] 113 (0,0))∧Kept (In3 j p q) w wx)
     case first =>
      go_region_held3 (fun w'=>w'.cell? ⟨X1.heap.size,0,none⟩=some (.int .i64 (ph:Int))∧w'.cell? ⟨X1.heap.size,1,none⟩=some (.int .i64 (pr:Int))∧w'.cell? ⟨X1.heap.size,2,none⟩=some (.int .i64 (a:Int))∧w'.cell? ⟨X1.heap.size,3,none⟩=some (.int .u32 ((n:Int)+1))) (go_keep) (first|(go_at_call 58; (with_reducible refine (place_z d (n+1) r _ _ HN1.out (by omega) hn1 HRp.out).mono ?_); rintro e wx ⟨rfl,hx⟩; subst wx)|(go_at_call 69; (with_reducible refine (slot_z (n+1) ph pr a _ _ HN1.out hn1 L1.out L2.out L3.out).mono ?_); rintro e w2 ⟨rfl,hb2⟩; have HJ2:=hid (HJY.out.drew.later hb2); have K2:=hid (KY.out.drew.trans (Kept.of_below hb2)); have R2:=hid ((hb2.block _ hsY).trans RY.out); have z0:=(hb2.cell (p:=⟨X1.heap.size,0,none⟩) hsY).trans y0; have z1:=(hb2.cell (p:=⟨X1.heap.size,1,none⟩) hsY).trans y1; have z2:=(hb2.cell (p:=⟨X1.heap.size,2,none⟩) hsY).trans y2; have z3:=(hb2.cell (p:=⟨X1.heap.size,3,none⟩) hsY).trans y3; clear hb2)|(go_at_call 68; (with_reducible refine (fill_no A w0 _ j p q E B l false kk (n+1) r ⟨ph,pr,a⟩ c HJ2.out HE.out hk12.out HR.out HC.out).mono ?_); rintro e w3 ⟨rfl,h3,k3⟩; have HJ3:=hid h3; have K3:=hid (K2.out.trans (k3.mono (fun k g=>Or.inr g))); have R3:=hid (k3.row R2.out (fun g=>g.elim hep.out.1 hep.out.2.1)); have t0:w3.cell? ⟨X1.heap.size,0,none⟩=some (.int .i64 (ph:Int)):=(cell_of_row _ _ _ _ _ _ R3.out).trans rfl; have t1:w3.cell? ⟨X1.heap.size,1,none⟩=some (.int .i64 (pr:Int)):=(cell_of_row _ _ _ _ _ _ R3.out).trans rfl; have t2:w3.cell? ⟨X1.heap.size,2,none⟩=some (.int .i64 (a:Int)):=(cell_of_row _ _ _ _ _ _ R3.out).trans rfl; have t3:w3.cell? ⟨X1.heap.size,3,none⟩=some (.int .u32 ((n:Int)+1)):=(cell_of_row _ _ _ _ _ _ R3.out).trans rfl; clear h3 k3))
      all_goals go_step
      all_goals go_step
      all_goals go_meet
      all_goals exact ⟨rfl,HJ3.out,R3.out,K3.out⟩
     case rest =>
      obtain ⟨rfl,h3,r3,k3⟩:=hcut
      have K3:=hid k3
      have HJ3:=hid h3
      have c25:=h3.jr.over
      have f25:=h3.jr.fz 25
      clear h3 r3 k3
      go_wp2_with fail
      go_ret
      exact ⟨by rw [F.out]; rfl,by rw [F.out]; exact HJ3.out.own ((Kept.refl _ wc).set1 _ _) (HJ3.out.jr.setOver true),K3.out.setCell (.inl rfl) _⟩
end
end Go.Proofs.YtkopfpaldmapdaaDoor
