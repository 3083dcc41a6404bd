/-
  On the way to SPlaysProof: JM JO JQ JS RVP S6 S5 RQ S1.
-/
import Derived.Test.YtaehdgemkafinaaGreatDoorBw9
import Derived.Test.YtaehdgemkafinaaGreatDoorBw10
import Derived.Maps.OwnSet
set_option maxHeartbeats 8000000
set_option maxRecDepth 100000
namespace Go.Proofs.YtaehdgemkafinaaGreatDoor
open Go.RowKit
structure POut where
 c:Nat
 e:Nat→Nat×St
 over:Bool
 b:ByteArray
 l:Int
def putIn (E:Nat→Nat×St) (B:ByteArray) (l:Int) (d:Nat) (s:St):POut :=
 @ite POut ((E d).2=s) (stEq (E d).2 s) ⟨0,E,false,B,l⟩ <| if (E d).1=4294967295 then ⟨5,E,false,B,l⟩
 else if (fill3 B l (nextK d (E d).1) ((E d).1+1) s).c=0 then ⟨0,updE E d ((E d).1+1,s),false,(fill3 B l (nextK d (E d).1) ((E d).1+1) s).b,(fill3 B l (nextK d (E d).1) ((E d).1+1) s).l⟩
 else ⟨(fill3 B l (nextK d (E d).1) ((E d).1+1) s).c,E,true,(fill3 B l (nextK d (E d).1) ((E d).1+1) s).b,(fill3 B l (nextK d (E d).1) ((E d).1+1) s).l⟩
def In3 (j p q k:Nat):Prop:=k=j ∨ k=p ∨ k=q
theorem place_z (d n r:Nat) (z:Int) (w:World) (hz:z=(n:Int)) (hd:d≤100) (hn:n<4294967296) (hr:18 * (2 * d+n % 2)=r) :
  Calls Tryz.prog 198 #[.int .i64 (d:Int),.int .u32 z] w fun e w'=>e=.returned (.int .i64 (r:Int))∧w'=w:=by
 subst hz; exact place_is d n r w hd hn hr
theorem slot_z (n ph p a:Nat) (z:Int) (w:World) (hz:z=(n:Int)) (hn:n<4294967296) (h1:ph<256) (h2:p<4294967296) (h3:a<4294967296) :
  Calls Tryz.prog 245 #[.agg #[.int .i64 (ph:Int),.int .i64 (p:Int),.int .i64 (a:Int),.int .u32 z]] w fun e w'=>e=.returned (.string (bA (bodyL n ⟨ph,p,a⟩ ++ [165])))∧Below w.heap.size w w':=by
 subst hz; exact slot_ag n ph p a w hn h1 h2 h3
section
variable (A:Nat→Addr) (w0 w:World) (j p q:Nat) (E:Nat→Nat×St) (B:ByteArray) (l:Int)
theorem fill_ok (over:Bool) (k n r:Nat) (s:St) (h:JP w0 w j p q E over B l) (hE:HeldE w0 A) (hk:k<12) (hr:18 * k=r) (hc:(fill3 B l k n s).c=0) :
  Calls Tryz.prog 244 #[.pointer (some ⟨j,0,none⟩),.int .i64 (r:Int),.string (bA (bodyL n s ++ [165]))] w fun e w'=>e=.returned .nilIface∧JP w0 w' j p q E over (fill3 B l k n s).b (fill3 B l k n s).l∧Kept (In2 p q) w w':=by
 have:=fill_any A w0 w j p q E over B l k n s h hE hk
 rw [hc,hr] at this
 exact this
theorem fill_no (over:Bool) (k n r:Nat) (s:St) (c:Nat) (h:JP w0 w j p q E over B l) (hE:HeldE w0 A) (hk:k<12) (hr:18 * k=r) (hc:(fill3 B l k n s).c=c+1) :
  Calls Tryz.prog 244 #[.pointer (some ⟨j,0,none⟩),.int .i64 (r:Int),.string (bA (bodyL n s ++ [165]))] w fun e w'=>e=.returned (.iface 318 (.pointer (some (A c))))∧JP w0 w' j p q E over (fill3 B l k n s).b (fill3 B l k n s).l∧Kept (In2 p q) w w':=by
 have:=fill_any A w0 w j p q E over B l k n s h hE hk
 rw [hc,hr] at this
 exact this
theorem put_over (d ph pr a:Int) (h:JP w0 w j p q E true B l) (hE:HeldE w0 A) :
  Calls Tryz.prog 216 #[.pointer (some ⟨j,0,none⟩),.int .i64 d,.agg #[.int .i64 ph,.int .i64 pr,.int .i64 a]] w fun e w'=>e=.returned (.iface 318 (.pointer (some (A 5))))∧JP w0 w' j p q E true B l∧Kept (In3 j p q) w w':=by
 have c:=h.jr.over
 have hj:=h.jr.lt
 have g5:=(h.held hE).g5
 have g5b:=cell_allocJ (o:=.cells #[.int .i64 ph,.int .i64 pr,.int .i64 a] 80) g5
 have HJ:=hid (h.later ((Below.refl _ _).alloc (Nat.le_refl _) (.cells #[.int .i64 ph,.int .i64 pr,.int .i64 a] 80)))
 clear h hE
 go_enter Tryz.func216,Tryz.ntmps216
 go_wp2_with fail
 go_ret
 exact ⟨rfl,HJ.out,kept_alloc _ _ _⟩
theorem put_bound (d ph pr a:Int) (h:JP w0 w j p q E false B l) (hE:HeldE w0 A) (hb:¬ ((0≤d∧d<6)∧fitsB ph pr a=true)) :
  Calls Tryz.prog 216 #[.pointer (some ⟨j,0,none⟩),.int .i64 d,.agg #[.int .i64 ph,.int .i64 pr,.int .i64 a]] w fun e w'=>e=.returned (.iface 318 (.pointer (some (A 1))))∧JP w0 w' j p q E false B l∧Kept (In3 j p q) w w':=by
 have c:=h.jr.over
 have hj:=h.jr.lt
 have g1:=(h.held hE).g1
 have g1b:=cell_allocJ (o:=.cells #[.int .i64 ph,.int .i64 pr,.int .i64 a] 80) g1
 have HJ:=hid (h.later ((Below.refl _ _).alloc (Nat.le_refl _) (.cells #[.int .i64 ph,.int .i64 pr,.int .i64 a] 80)))
 have HE:=hid hE
 clear h hE
 by_cases hd:0≤d∧d<6
 ·have hf:fitsB ph pr a=false:=by
   cases hx:fitsB ph pr a
   ·rfl
   ·exact absurd ⟨hd,hx⟩ hb
  have HK:=hid (decide_eq_true hd)
  have HF:=hid hf
  clear hb hf hd
  go_enter Tryz.func216,Tryz.ntmps216
  go_wp2_with (first|(go_at_call 188; refine (known_any d _).mono ?_; rw [HK.out]; rintro e wx ⟨rfl,hx⟩; subst wx)|(go_at_call 243; refine (fits_any ph pr a _).mono ?_; rw [HF.out]; rintro e w1 ⟨rfl,hb1⟩; have HJ1:=hid (HJ.out.later hb1); have K1:=hid ((kept_alloc (In3 j p q) w _).trans (Kept.of_below hb1)); have g1c:=(HJ1.out.held HE.out).g1; clear hb1))
  go_ret
  exact ⟨rfl,HJ1.out,K1.out⟩
 ·have HK:=hid (decide_eq_false hd)
  clear hb hd
  go_enter Tryz.func216,Tryz.ntmps216
  go_wp2_with (go_at_call 188; refine (known_any d _).mono ?_; rw [HK.out]; rintro e wx ⟨rfl,hx⟩; subst wx)
  go_ret
  exact ⟨rfl,HJ.out,kept_alloc _ _ _⟩
theorem put_in (d:Nat) (s:St) (h:JP w0 w j p q E false B l) (hE:HeldE w0 A) (hd:d<6) (hf:fitsB s.ph s.pr s.at_=true) (hn:(E d).1<4294967296) :
  Calls Tryz.prog 216 #[.pointer (some ⟨j,0,none⟩),.int .i64 (d:Int),.agg #[.int .i64 (s.ph:Int),.int .i64 (s.pr:Int),.int .i64 (s.at_:Int)]] w fun e w'=>e=.returned (ev A (putIn E B l d s).c)∧JP w0 w' j p q (putIn E B l d s).e (putIn E B l d s).over (putIn E B l d s).b (putIn E B l d s).l∧Kept (In3 j p q) w w':=by
 have HK:Hid (decide (0≤(d:Int)∧(d:Int)<6)=true):=decide_eq_true ⟨by omega,by omega⟩
 have HF:=hid hf
 have HE:=hid hE
 obtain ⟨O,HO⟩:∃ o,Hid (putIn E B l d s=o):=⟨_,rfl⟩
 rw [HO.out]
 obtain ⟨ph,pr,a⟩:=s
 obtain ⟨W,HW⟩:∃ W,Hid (w.alloc (.cells #[.int .i64 (ph:Int),.int .i64 (pr:Int),.int .i64 (a:Int)] 80)=W):=⟨_,rfl⟩
 have hW:=HW.out
 have HJ:Hid (JP w0 W j p q E false B l):=by rw [← HW.out]; exact h.later ((Below.refl _ _).alloc (Nat.le_refl _) _)
 have RW:Hid (W.heap[w.heap.size]? = some (.cells #[.int .i64 (ph:Int),.int .i64 (pr:Int),.int .i64 (a:Int)] 80 (0,0))):=by rw [← HW.out]; exact heap_alloc_new w _
 have cW:=HJ.out.jr.over
 have b0:W.cell? ⟨w.heap.size,0,none⟩=some (.int .i64 (ph:Int)):=by rw [cell_of_row _ _ _ _ _ _ RW.out]; rfl
 have b1:W.cell? ⟨w.heap.size,1,none⟩=some (.int .i64 (pr:Int)):=by rw [cell_of_row _ _ _ _ _ _ RW.out]; rfl
 have b2:W.cell? ⟨w.heap.size,2,none⟩=some (.int .i64 (a:Int)):=by rw [cell_of_row _ _ _ _ _ _ RW.out]; rfl
 have hsW:w.heap.size<W.heap.size:=row_ltJ RW.out
 clear h hE hf
 go_enter Tryz.func216,Tryz.ntmps216
 go_wp2_with (go_at_call 188; refine (known_any d _).mono ?_; rw [HK.out]; rintro e wx ⟨rfl,hx⟩; subst wx)
 refine (fits_any ph pr a _).mono ?_
 rw [HF.out]
 rintro e w1 ⟨rfl,hb1⟩
 have HJ1:=hid (HJ.out.later hb1)
 have K1:Hid (Kept (In3 j p q) w w1):=by
  have k0:Kept (In3 j p q) w W:=by rw [← HW.out]; exact kept_alloc _ _ _
  exact k0.trans (Kept.of_below hb1)
 have R1:=hid ((hb1.block _ hsW).trans RW.out)
 have hs1:w.heap.size<w1.heap.size:=row_ltJ R1.out
 clear hb1
 obtain ⟨⟨n,ph',pr',a'⟩,HEd⟩:∃ x,Hid (E d=x):=⟨_,rfl⟩
 have hj1:=HJ1.out.jr.lt
 obtain ⟨c0,c1,c2,c3⟩:=HJ1.out.jr.ent hd
 rw [HEd.out] at c0 c1 c2 c3 hn
 obtain ⟨X1,HX1⟩:∃ X,Hid (w1.alloc (.cells #[.int .i64 (ph':Int),.int .i64 (pr':Int),.int .i64 (a':Int),.int .u32 (n:Int)] 164)=X):=⟨_,rfl⟩
 have hX1:=HX1.out
 have HJX:Hid (JP w0 X1 j p q E false B l):=by rw [← HX1.out]; exact HJ1.out.later ((Below.refl _ _).alloc (Nat.le_refl _) _)
 have KX:Hid (Kept (In3 j p q) w X1):=by rw [← HX1.out]; exact K1.out.trans (kept_alloc _ _ _)
 have RX:Hid (X1.heap[w1.heap.size]? = some (.cells #[.int .i64 (ph':Int),.int .i64 (pr':Int),.int .i64 (a':Int),.int .u32 (n:Int)] 164 (0,0))):=by rw [← HX1.out]; exact heap_alloc_new w1 _
 have RB:Hid (X1.heap[w.heap.size]? = some (.cells #[.int .i64 (ph:Int),.int .i64 (pr:Int),.int .i64 (a:Int)] 80 (0,0))):=by rw [← HX1.out]; exact (Below.heap_alloc w1 _ _ hs1).trans R1.out
 have d0:X1.cell? ⟨w.heap.size,0,none⟩=some (.int .i64 (ph:Int)):=by rw [cell_of_row _ _ _ _ _ _ RB.out]; rfl
 have d1:X1.cell? ⟨w.heap.size,1,none⟩=some (.int .i64 (pr:Int)):=by rw [cell_of_row _ _ _ _ _ _ RB.out]; rfl
 have d2:X1.cell? ⟨w.heap.size,2,none⟩=some (.int .i64 (a:Int)):=by rw [cell_of_row _ _ _ _ _ _ RB.out]; rfl
 have o0:X1.cell? ⟨w1.heap.size,0,none⟩=some (.int .i64 (ph':Int)):=by rw [cell_of_row _ _ _ _ _ _ RX.out]; rfl
 have o1:X1.cell? ⟨w1.heap.size,1,none⟩=some (.int .i64 (pr':Int)):=by rw [cell_of_row _ _ _ _ _ _ RX.out]; rfl
 have o2:X1.cell? ⟨w1.heap.size,2,none⟩=some (.int .i64 (a':Int)):=by rw [cell_of_row _ _ _ _ _ _ RX.out]; rfl
 have o3:X1.cell? ⟨w1.heap.size,3,none⟩=some (.int .u32 (n:Int)):=by rw [cell_of_row _ _ _ _ _ _ RX.out]; rfl
 obtain ⟨eqb,HQ⟩:∃ b:Bool,Hid (stSame ⟨ph',pr',a'⟩ ⟨ph,pr,a⟩=b):=⟨_,hid (Eq.refl _)⟩
 go_upto_region 6 with fail
 go_cut [33] from 10 (fun s33 wx=>s33=.bool eqb∧X1=wx)
 case first =>
  go_wp2_with fail
  all_goals go_meet
  all_goals refine ⟨congrArg Value.bool ?_,rfl⟩
  all_goals rw [← HQ.out]
  all_goals show _=decide (ph'=ph∧pr'=pr∧a'=a)
  all_goals first|(refine (decide_eq_true ?_).symm; omega)|(refine (decide_eq_false ?_).symm; omega)
 case rest =>
  obtain ⟨rfl,rfl⟩:=hcut
  cases eqb with
  | true =>
   have e:(⟨ph',pr',a'⟩:St)=⟨ph,pr,a⟩:=stSame_true HQ.out
   have F:Hid (O=⟨0,E,false,B,l⟩):=by rw [← HO.out]; unfold Hid putIn; rw [HEd.out,if_pos e]
   go_wp2_with fail
   go_ret
   exact ⟨by rw [F.out]; rfl,by rw [F.out]; exact HJX.out,KX.out⟩
  | false =>
   have ne:¬ (⟨ph',pr',a'⟩:St)=⟨ph,pr,a⟩:=stSame_false HQ.out
   have hjc:=HJX.out.jr.lt
   by_cases hmax:n=4294967295
   ·have F:Hid (O=⟨5,E,false,B,l⟩):=by rw [← HO.out]; unfold Hid putIn; rw [HEd.out,if_neg ne,if_pos hmax]
    have g4:=(HJX.out.held HE.out).g4
    subst hmax
    go_wp2_with fail
    go_ret
    exact ⟨by rw [F.out]; rfl,by rw [F.out]; exact HJX.out,KX.out⟩
   ·obtain ⟨kk,HKK⟩:∃ k,Hid (nextK d n=k):=⟨_,rfl⟩
    obtain ⟨r,HR⟩:∃ r,Hid (18 * kk=r):=⟨_,rfl⟩
    have HRp:Hid (18 * (2 * d+(n+1) % 2)=r):=by rw [← HR.out,← HKK.out]; rfl
    have hk12:Hid (kk<12):=by rw [← HKK.out]; unfold Hid nextK; omega
    have hf:=of_decide_eq_true HF.out
    have L1:Hid (ph<256):=by unfold Hid; omega
    have L2:Hid (pr<4294967296):=by unfold Hid; omega
    have L3:Hid (a<4294967296):=by unfold Hid; omega
    have hn1:n+1<4294967296:=by omega
    have HN1:Hid (((n:Int)+1)=((n+1:Nat):Int)):=by unfold Hid; omega
    clear hf
    obtain ⟨Y,HY⟩:∃ Y,Hid (X1.alloc (.cells #[.int .i64 (ph:Int),.int .i64 (pr:Int),.int .i64 (a:Int),.int .u32 ((n:Int)+1)] 164)=Y):=⟨_,rfl⟩
    have hY:=HY.out
    have HJY:Hid (JP w0 Y j p q E false B l):=by rw [← HY.out]; exact HJX.out.later ((Below.refl _ _).alloc (Nat.le_refl _) _)
    have KY:Hid (Kept (In3 j p q) w Y):=by rw [← HY.out]; exact KX.out.trans (kept_alloc _ _ _)
    have RY:Hid (Y.heap[X1.heap.size]? = some (.cells #[.int .i64 (ph:Int),.int .i64 (pr:Int),.int .i64 (a:Int),.int .u32 ((n:Int)+1)] 164 (0,0))):=by rw [← HY.out]; exact heap_alloc_new X1 _
    have hep:Hid (X1.heap.size≠p∧X1.heap.size≠q∧X1.heap.size≠j):=⟨by have:=row_lt HJX.out.pl.head; omega,by have:=row_lt HJX.out.pl.row; omega,by omega⟩
    have y0:Y.cell? ⟨X1.heap.size,0,none⟩=some (.int .i64 (ph:Int)):=by rw [cell_of_row _ _ _ _ _ _ RY.out]; rfl
    have y1:Y.cell? ⟨X1.heap.size,1,none⟩=some (.int .i64 (pr:Int)):=by rw [cell_of_row _ _ _ _ _ _ RY.out]; rfl
    have y2:Y.cell? ⟨X1.heap.size,2,none⟩=some (.int .i64 (a:Int)):=by rw [cell_of_row _ _ _ _ _ _ RY.out]; rfl
    have y3:Y.cell? ⟨X1.heap.size,3,none⟩=some (.int .u32 ((n:Int)+1)):=by rw [cell_of_row _ _ _ _ _ _ RY.out]; rfl
    have hsY:X1.heap.size<Y.heap.size:=row_ltJ RY.out
    rcases hc:(fill3 B l kk (n+1) ⟨ph,pr,a⟩).c with _|c
    ·have HC:=hid hc
     have F:Hid (O=⟨0,updE E d (n+1,⟨ph,pr,a⟩),false,(fill3 B l kk (n+1) ⟨ph,pr,a⟩).b,(fill3 B l kk (n+1) ⟨ph,pr,a⟩).l⟩):=by
      rw [← HO.out]; unfold Hid putIn; rw [HEd.out,if_neg ne,if_neg hmax]; simp only []; rw [HKK.out,if_pos hc]
     clear hc
     go_upto_region 11 with fail
     go_cut [9] from 10 (fun s9 wx=>s9=.nilIface∧JP w0 wx j p q E false (fill3 B l kk (n+1) ⟨ph,pr,a⟩).b (fill3 B l kk (n+1) ⟨ph,pr,a⟩).l∧wx.heap[X1.heap.size]? = some (.cells #[.int .i64 (ph:Int),.int .i64 (pr:Int),.int .i64 (a:Int),.int .u32 ((n:Int)+1)] 164 (0,0))∧Kept (In3 j p q) w wx)
     case first =>
      go_region_held3 (fun w'=>w'.cell? ⟨X1.heap.size,0,none⟩=some (.int .i64 (ph:Int))∧w'.cell? ⟨X1.heap.size,1,none⟩=some (.int .i64 (pr:Int))∧w'.cell? ⟨X1.heap.size,2,none⟩=some (.int .i64 (a:Int))∧w'.cell? ⟨X1.heap.size,3,none⟩=some (.int .u32 ((n:Int)+1))) (go_keep) (first|(go_at_call 198; (with_reducible refine (place_z d (n+1) r _ _ HN1.out (by omega) hn1 HRp.out).mono ?_); rintro e wx ⟨rfl,hx⟩; subst wx)|(go_at_call 245; (with_reducible refine (slot_z (n+1) ph pr a _ _ HN1.out hn1 L1.out L2.out L3.out).mono ?_); rintro e w2 ⟨rfl,hb2⟩; have HJ2:=hid (HJY.out.drew.later hb2); have K2:=hid (KY.out.drew.trans (Kept.of_below hb2)); have R2:=hid ((hb2.block _ hsY).trans RY.out); have z0:=(hb2.cell (p:=⟨X1.heap.size,0,none⟩) hsY).trans y0; have z1:=(hb2.cell (p:=⟨X1.heap.size,1,none⟩) hsY).trans y1; have z2:=(hb2.cell (p:=⟨X1.heap.size,2,none⟩) hsY).trans y2; have z3:=(hb2.cell (p:=⟨X1.heap.size,3,none⟩) hsY).trans y3; clear hb2)|(go_at_call 244; (with_reducible refine (fill_ok A w0 _ j p q E B l false kk (n+1) r ⟨ph,pr,a⟩ HJ2.out HE.out hk12.out HR.out HC.out).mono ?_); rintro e w3 ⟨rfl,h3,k3⟩; have HJ3:=hid h3; have K3:=hid (K2.out.trans (k3.mono (fun k g=>Or.inr g))); have R3:=hid (k3.row R2.out (fun g=>g.elim hep.out.1 hep.out.2.1)); have t0:w3.cell? ⟨X1.heap.size,0,none⟩=some (.int .i64 (ph:Int)):=(cell_of_row _ _ _ _ _ _ R3.out).trans rfl; have t1:w3.cell? ⟨X1.heap.size,1,none⟩=some (.int .i64 (pr:Int)):=(cell_of_row _ _ _ _ _ _ R3.out).trans rfl; have t2:w3.cell? ⟨X1.heap.size,2,none⟩=some (.int .i64 (a:Int)):=(cell_of_row _ _ _ _ _ _ R3.out).trans rfl; have t3:w3.cell? ⟨X1.heap.size,3,none⟩=some (.int .u32 ((n:Int)+1)):=(cell_of_row _ _ _ _ _ _ R3.out).trans rfl; clear h3 k3))
      all_goals go_step
      all_goals go_step
      all_goals go_meet
      all_goals exact ⟨rfl,HJ3.out,R3.out,K3.out⟩
     case rest =>
      obtain ⟨rfl,h3,r3,k3⟩:=hcut
      have K3:=hid k3
      have HJ3:=hid h3
      have R3:=hid r3
      obtain ⟨c0,c1,c2,c3⟩:=h3.jr.ent hd
      have f0:=h3.jr.fz (1+d * 4)
      have f1:=h3.jr.fz (1+d * 4+1)
      have f2:=h3.jr.fz (1+d * 4+2)
      have f3:=h3.jr.fz (1+d * 4+3)
      have t0:wc.cell? ⟨X1.heap.size,0,none⟩=some (.int .i64 (ph:Int)):=by rw [cell_of_row _ _ _ _ _ _ R3.out]; rfl
      have t1:wc.cell? ⟨X1.heap.size,1,none⟩=some (.int .i64 (pr:Int)):=by rw [cell_of_row _ _ _ _ _ _ R3.out]; rfl
      have t2:wc.cell? ⟨X1.heap.size,2,none⟩=some (.int .i64 (a:Int)):=by rw [cell_of_row _ _ _ _ _ _ R3.out]; rfl
      have t3:wc.cell? ⟨X1.heap.size,3,none⟩=some (.int .u32 ((n:Int)+1)):=by rw [cell_of_row _ _ _ _ _ _ R3.out]; rfl
      have hne:=hep.out.2.2
      clear h3 r3 k3
      go_wp2_with fail
      go_region
      all_goals go_wp2_with fail
      go_ret
      exact ⟨by rw [F.out]; rfl,by rw [F.out]; exact (HJ3.out.own (((((Kept.refl _ wc).set1 _ _).set1 _ _).set1 _ _).set1 _ _) (HJ3.out.jr.set hd (n+1,⟨ph,pr,a⟩))).drew,((((K3.out.setCell (.inl rfl) _).setCell (.inl rfl) _).setCell (.inl rfl) _).setCell (.inl rfl) _).drew⟩
    ·have HC:=hid hc
     have F:Hid (O=⟨c+1,E,true,(fill3 B l kk (n+1) ⟨ph,pr,a⟩).b,(fill3 B l kk (n+1) ⟨ph,pr,a⟩).l⟩):=by
      rw [← HO.out]; unfold Hid putIn; rw [HEd.out,if_neg ne,if_neg hmax]; simp only []; rw [HKK.out,if_neg (by omega),hc]
     clear hc
     go_upto_region 11 with fail
     go_cut [9] from 10 (fun s9 wx=>s9=.iface 318 (.pointer (some (A c)))∧JP w0 wx j p q E false (fill3 B l kk (n+1) ⟨ph,pr,a⟩).b (fill3 B l kk (n+1) ⟨ph,pr,a⟩).l∧wx.heap[X1.heap.size]? = some (.cells #[.int .i64 (ph:Int),.int .i64 (pr:Int),.int .i64 (a:Int),.int .u32 ((n:Int)+1)] 164 (0,0))∧Kept (In3 j p q) w wx)
     case first =>
      go_region_held3 (fun w'=>w'.cell? ⟨X1.heap.size,0,none⟩=some (.int .i64 (ph:Int))∧w'.cell? ⟨X1.heap.size,1,none⟩=some (.int .i64 (pr:Int))∧w'.cell? ⟨X1.heap.size,2,none⟩=some (.int .i64 (a:Int))∧w'.cell? ⟨X1.heap.size,3,none⟩=some (.int .u32 ((n:Int)+1))) (go_keep) (first|(go_at_call 198; (with_reducible refine (place_z d (n+1) r _ _ HN1.out (by omega) hn1 HRp.out).mono ?_); rintro e wx ⟨rfl,hx⟩; subst wx)|(go_at_call 245; (with_reducible refine (slot_z (n+1) ph pr a _ _ HN1.out hn1 L1.out L2.out L3.out).mono ?_); rintro e w2 ⟨rfl,hb2⟩; have HJ2:=hid (HJY.out.drew.later hb2); have K2:=hid (KY.out.drew.trans (Kept.of_below hb2)); have R2:=hid ((hb2.block _ hsY).trans RY.out); have z0:=(hb2.cell (p:=⟨X1.heap.size,0,none⟩) hsY).trans y0; have z1:=(hb2.cell (p:=⟨X1.heap.size,1,none⟩) hsY).trans y1; have z2:=(hb2.cell (p:=⟨X1.heap.size,2,none⟩) hsY).trans y2; have z3:=(hb2.cell (p:=⟨X1.heap.size,3,none⟩) hsY).trans y3; clear hb2)|(go_at_call 244; (with_reducible refine (fill_no A w0 _ j p q E B l false kk (n+1) r ⟨ph,pr,a⟩ c HJ2.out HE.out hk12.out HR.out HC.out).mono ?_); rintro e w3 ⟨rfl,h3,k3⟩; have HJ3:=hid h3; have K3:=hid (K2.out.trans (k3.mono (fun k g=>Or.inr g))); have R3:=hid (k3.row R2.out (fun g=>g.elim hep.out.1 hep.out.2.1)); have t0:w3.cell? ⟨X1.heap.size,0,none⟩=some (.int .i64 (ph:Int)):=(cell_of_row _ _ _ _ _ _ R3.out).trans rfl; have t1:w3.cell? ⟨X1.heap.size,1,none⟩=some (.int .i64 (pr:Int)):=(cell_of_row _ _ _ _ _ _ R3.out).trans rfl; have t2:w3.cell? ⟨X1.heap.size,2,none⟩=some (.int .i64 (a:Int)):=(cell_of_row _ _ _ _ _ _ R3.out).trans rfl; have t3:w3.cell? ⟨X1.heap.size,3,none⟩=some (.int .u32 ((n:Int)+1)):=(cell_of_row _ _ _ _ _ _ R3.out).trans rfl; clear h3 k3))
      all_goals go_step
      all_goals go_step
      all_goals go_meet
      all_goals exact ⟨rfl,HJ3.out,R3.out,K3.out⟩
     case rest =>
      obtain ⟨rfl,h3,r3,k3⟩:=hcut
      have K3:=hid k3
      have HJ3:=hid h3
      have c25:=h3.jr.over
      have f25:=h3.jr.fz 25
      clear h3 r3 k3
      go_wp2_with fail
      go_ret
      exact ⟨by rw [F.out]; rfl,by rw [F.out]; exact HJ3.out.own ((Kept.refl _ wc).set1 _ _) (HJ3.out.jr.setOver true),K3.out.setCell (.inl rfl) _⟩
end
theorem fits_of {s:St} (h:fitsB s.ph s.pr s.at_=true):s.fits:=by
 have:=of_decide_eq_true h
 refine ⟨by omega,by omega,by omega⟩
section
variable {B:ByteArray} {l:Int} {d:Nat} {s:St}
theorem nextK_le (hd:d<6) (m:Nat):nextK d m<12:=by unfold nextK; omega
theorem putIn_size (E:Nat→Nat×St):(putIn E B l d s).b.size=B.size:=by
 unfold putIn
 repeat' split
 ·rfl
 ·rfl
 ·exact fill3_size
 ·exact fill3_size
theorem put_out (hB:216≤B.size) (hd:d<6) (hs:s.fits) (hn:(dealL B.data.toList d).1+1<4294967295) (hl:l≠-2) :
  ((putIn (dealL B.data.toList) B l d s).c=0∧(putIn (dealL B.data.toList) B l d s).over=false∧(putIn (dealL B.data.toList) B l d s).e=dealL (putIn (dealL B.data.toList) B l d s).b.data.toList∧(putIn (dealL B.data.toList) B l d s).l≠-2 ∧
   (dealL (putIn (dealL B.data.toList) B l d s).b.data.toList d).2=s∧(∀ e,e≠d→dealL (putIn (dealL B.data.toList) B l d s).b.data.toList e=dealL B.data.toList e)∧(dealL (putIn (dealL B.data.toList) B l d s).b.data.toList d).1≤(dealL B.data.toList d).1+1) ∨
  ((putIn (dealL B.data.toList) B l d s).c=6∧(putIn (dealL B.data.toList) B l d s).over=true∧(putIn (dealL B.data.toList) B l d s).l=-2∧dealL (putIn (dealL B.data.toList) B l d s).b.data.toList=dealL B.data.toList):=by
 have hk:=nextK_le hd (dealL B.data.toList d).1
 have ho:=fill3_out (B:=B) (l:=l) (k:=nextK d (dealL B.data.toList d).1) (n:=(dealL B.data.toList d).1+1) (s:=s) (by omega)
 unfold putIn
 by_cases h1:(dealL B.data.toList d).2=s
 ·rw [if_pos h1]
  exact .inl ⟨rfl,rfl,rfl,hl,h1,fun _ _=>rfl,by show (dealL B.data.toList d).1≤_; omega⟩
 ·rw [if_neg h1,if_neg (by omega)]
  rcases ho with ⟨c,z,o⟩|⟨c,t,o⟩
  ·rw [if_pos c]
   have e1:=deal_done (by omega) hs z
   have e2:∀ e,e≠d→dealL (fill3 B l (nextK d (dealL B.data.toList d).1) ((dealL B.data.toList d).1+1) s).b.data.toList e=dealL B.data.toList e:=fun e he=>deal_other z.1 he
   refine .inl ⟨rfl,rfl,?_,o,?_,e2,?_⟩
   ·funext e
    show updE _ d _ e=_
    unfold updE
    by_cases he:e=d
    ·subst he; rw [if_pos rfl]; exact e1.symm
    ·rw [if_neg he]; exact (e2 e he).symm
   ·show (dealL _ d).2=s; rw [e1]
   ·show (dealL _ d).1≤_; rw [e1]; exact Nat.le_refl _
  ·rw [if_neg (by omega)]
   refine .inr ⟨c,rfl,o,?_⟩
   funext e
   by_cases he:e=d
   ·subst he; exact deal_torn (by rw [← size_list]; omega) t
   ·exact deal_other t.1 he
theorem put_free (hB:216≤B.size) (hd:d<6) (hn:(dealL B.data.toList d).1+1<4294967295):(putIn (dealL B.data.toList) B (-1) d s).c=0∧(putIn (dealL B.data.toList) B (-1) d s).l=-1:=by
 have hk:=nextK_le hd (dealL B.data.toList d).1
 have ho:=fill3_free (B:=B) (k:=nextK d (dealL B.data.toList d).1) (n:=(dealL B.data.toList d).1+1) (s:=s) (by omega)
 unfold putIn
 by_cases h1:(dealL B.data.toList d).2=s
 ·rw [if_pos h1]; exact ⟨rfl,rfl⟩
 ·rw [if_neg h1,if_neg (by omega),if_pos ho.1]; exact ⟨rfl,ho.2⟩
end
theorem slot_zero (n k:Nat) (h:18 * (k+1)≤n):(slotL (zeroB n).data.toList k)[17]? = some 0:=by
 have e:(zeroB n).data.toList=List.replicate n 0:=by simp [zeroB]
 rw [slotL_get,if_pos (by decide),e,List.getElem?_replicate,if_pos (by omega)]
theorem deal_zero (n d:Nat) (h:36 * (d+1)≤n):dealL (zeroB n).data.toList d=(0,St.zero):=by
 have hz:∀ k,18 * (k+1)≤n→heldL k (slotL (zeroB n).data.toList k)=(0,St.zero):=fun k hk=>heldL_torn k _ 0 (last_of_17 (slotL_length (by rw [← size_list,zeroB_size]; exact hk)) (slot_zero n k hk)) (by decide)
 unfold dealL
 rw [hz _ (by omega),hz _ (by omega),if_neg (Nat.lt_irrefl _)]
section
variable {w0 w w1 w2:World} {j p q:Nat} {E:Nat→Nat×St} {over:Bool} {B:ByteArray} {l:Int} {A:Nat→Addr}
theorem jp_new (hb:Below w0.heap.size w0 w1) (h:Pl w1 p q B l) (hp:w0.heap.size≤p) (hq:w0.heap.size≤q) (hj:JR w2 j p E over) (hb2:Below w1.heap.size w1 w2) (hj0:w1.heap.size≤j) (h0:-2≤l) (h1:l≤9223372036854775807) (hs:B.size≤1000) (h6:216≤B.size):JP w0 w2 j p q E over B l:=by
 have e1:=row_lt h.head
 have e2:=row_lt h.row
 exact ⟨hb.trans (hb2.mono hb.size),hj,h.kept (S:=fun _=>False) (Kept.of_below hb2) (fun x=>x) (fun x=>x),by omega,by omega,Nat.le_trans hb.size hj0,hp,hq,h0,h1,hs,h6⟩
end
def sts (B:ByteArray):Nat→St:=fun d=>(dealL B.data.toList d).2
theorem get_is (j p d:Nat) (E:Nat→Nat×St) (over:Bool) (h1 h2 h3:Nat) (w:World) (h:JR w j p E over) (hd:d<6) (hs:(E d).2=⟨h1,h2,h3⟩) :
  Calls Tryz.prog 160 #[.pointer (some ⟨j,0,none⟩),.int .i64 (d:Int)] w fun e w'=>e=.returned (.tuple #[.agg #[.int .i64 (h1:Int),.int .i64 (h2:Int),.int .i64 (h3:Int)],.nilIface])∧Below w.heap.size w w':=by
 have:=get_ok j p d E over w h hd
 rw [hs] at this
 exact this
end Go.Proofs.YtaehdgemkafinaaGreatDoor
namespace Go.Proofs.YtaehdgemkafinaaGreatDoor
open Go.RowKit
def pOut (E:Nat→Nat×St) (over:Bool) (B:ByteArray) (l:Int) (dl ph pr a:Int):POut :=
 if over=true then ⟨6,E,true,B,l⟩ else if (0≤dl∧dl<6)∧fitsB ph pr a=true then putIn E B l dl.toNat ⟨ph.toNat,pr.toNat,a.toNat⟩ else ⟨2,E,false,B,l⟩
section
variable {w0 w w':World} {j p q m gn gs r:Nat} {E:Nat→Nat×St} {over dead:Bool} {B:ByteArray} {l:Int} {A:Nat→Addr}
theorem in_nat {dl ph pr a:Int} (h:(0≤dl∧dl<6)∧fitsB ph pr a=true):∃ d h1 h2 h3:Nat,dl=d∧ph=h1∧pr=h2∧a=h3:=by
 obtain ⟨b1,b2,b3,b4,b5,b6⟩:=of_decide_eq_true h.2
 exact ⟨dl.toNat,ph.toNat,pr.toNat,a.toNat,by omega,by omega,by omega,by omega⟩
theorem jput_any (dl ph pr a:Int) (o:POut) (ho:pOut E over B l dl ph pr a=o) (h:JP w0 w j p q E over B l) (hE:HeldE w0 A) (hn:∀ d,d<6→(E d).1<4294967296) :
  Calls Tryz.prog 216 #[.pointer (some ⟨j,0,none⟩),.int .i64 dl,.agg #[.int .i64 ph,.int .i64 pr,.int .i64 a]] w fun e w'=>e=.returned (ev A o.c)∧JP w0 w' j p q o.e o.over o.b o.l∧Kept (In3 j p q) w w':=by
 subst ho
 unfold pOut
 cases over with
 | true=>rw [if_pos rfl]; exact put_over A w0 w j p q E B l dl ph pr a h hE
 | false =>
  rw [if_neg (by decide)]
  by_cases hb:(0≤dl∧dl<6)∧fitsB ph pr a=true
  ·rw [if_pos hb]
   obtain ⟨d,h1,h2,h3,rfl,rfl,rfl,rfl⟩:=in_nat hb
   simp only [Int.toNat_natCast]
   exact put_in A w0 w j p q E B l d ⟨h1,h2,h3⟩ h hE (by omega) hb.2 (hn d (by omega))
  ·rw [if_neg hb]; exact put_bound A w0 w j p q E B l dl ph pr a h hE hb
theorem JP.far {S:Nat→Prop} (h:JP w0 w j p q E over B l) (k:Kept S w w') (hS:∀ x,S x→w0.heap.size≤x) (hd:∀ x,In3 j p q x→¬ S x):JP w0 w' j p q E over B l :=
 ⟨k.below h.bel.size hS h.bel,k.row h.jr (hd j (.inl rfl)),h.pl.kept k (hd p (.inr (.inl rfl))) (hd q (.inr (.inr rfl))),h.jp,h.jq,h.j0,h.p0,h.q0,h.l0,h.l1,h.sz,h.s6⟩
end
end Go.Proofs.YtaehdgemkafinaaGreatDoor
namespace Go.Proofs.YtaehdgemkafinaaGreatDoor
theorem good_fits {s:St} (h:s.good):fitsB s.ph s.pr s.at_=true:=by
 obtain ⟨h1,h2,h3⟩:=h
 exact decide_eq_true (by omega)
structure Well (B:ByteArray) (over:Bool) (l:Int) (m:Nat):Prop where
 good:∀ d,d<6→(dealL B.data.toList d).2.good
 num:∀ d,d<6→(dealL B.data.toList d).1≤m
 pow:over=false→l≠-2
theorem Well.mono {B:ByteArray} {over:Bool} {l:Int} {m k:Nat} (h:Well B over l m) (hk:m≤k):Well B over l k:=⟨h.good,fun d hd=>Nat.le_trans (h.num d hd) hk,h.pow⟩
theorem well_zero (n:Nat) (h:216≤n):Well (zeroB n) false (-1) 0 :=
 ⟨fun d hd=>by rw [deal_zero n d (by omega)]; exact ⟨by decide,by decide,by decide⟩,fun d hd=>by rw [deal_zero n d (by omega)]; exact Nat.le_refl _,fun _=>by omega⟩
end Go.Proofs.YtaehdgemkafinaaGreatDoor
namespace Go.Proofs.YtaehdgemkafinaaGreatDoor
open Go.RowKit
theorem mlaw:Maps.Keyed Tryz.prog 3:=Maps.int_keyed Tryz.underlying3
theorem munit (w:World):(zeroValue 174).run Tryz.prog w=.ok (.agg #[]) w:=by kernel_rfl
theorem mkey {a:Int} (h:-9223372036854775808≤a∧a≤9223372036854775807):keyOf Tryz.prog 3 (.int .i64 a)=some (.int .i64 a):=by
 refine Maps.keyOf_int_mk Tryz.underlying3 ?_
 have h1:IntKind.i64.min=-9223372036854775808:=by decide
 have h2:IntKind.i64.max=9223372036854775807:=by decide
 simp only [Lit.wf,Bool.and_eq_true,decide_eq_true_eq,h1,h2]
 exact h
theorem mkeyN {d:Nat} (h:d<6):keyOf Tryz.prog 3 (.int .i64 (d:Int))=some (.int .i64 (d:Int)):=mkey (by omega)
structure SR (w:World) (s j mb:Nat) (id:Int) (R:Nat→Bool) (n:Nat):Prop where
 row:w.heap[s]? = some (.cells #[.pointer (some ⟨j,0,none⟩),.int .i64 id,.map (some mb)] 160 (0,0))
 ref:∃ D:DataW Unit,w.ownsMap Tryz.prog 3 unitElem mb n D∧∀ d:Nat,d<6→Maps.has D (.int .i64 (d:Int))=R d
theorem ownsMap_kept {S:Nat→Prop} {w w':World} {P:Program} {k:TypeId} {H:Type} {R:Value→Option (DataW H×List MemPlace)} {b n:Nat} {D:DataW H} (h:w.ownsMap P k R b n D) (hk:Kept S w w') (hs:¬ S b):w'.ownsMap P k R b n D:=by
 obtain ⟨es,cl,hb,r⟩:=h
 exact ⟨es,cl,hk.row hb hs,r⟩
section
variable {w w':World} {s j mb n:Nat} {id:Int} {R:Nat→Bool}
theorem SR.kept {S:Nat→Prop} (h:SR w s j mb id R n) (k:Kept S w w') (h1:¬ S s) (h2:¬ S mb):SR w' s j mb id R n:=by
 obtain ⟨r,D,hD,hh⟩:=h
 exact ⟨k.row r h1,D,ownsMap_kept hD k h2,hh⟩
theorem SR.later (h:SR w s j mb id R n) (hb:Below w.heap.size w w'):SR w' s j mb id R n:=h.kept (S:=fun _=>False) (Kept.of_below hb) (fun x=>x) (fun x=>x)
theorem SR.mono {m:Nat} (h:SR w s j mb id R n) (hn:n≤m):SR w s j mb id R m:=by
 obtain ⟨r,D,hD,hh⟩:=h
 exact ⟨r,D,hD.mono hn,hh⟩
theorem SR.cells (h:SR w s j mb id R n):w.cell? ⟨s,0,none⟩=some (.pointer (some ⟨j,0,none⟩))∧w.cell? ⟨s,1,none⟩=some (.int .i64 id)∧w.cell? ⟨s,2,none⟩=some (.map (some mb)):=by
 refine ⟨?_,?_,?_⟩ <;> rw [cell_of_row _ _ _ _ _ _ h.row] <;> rfl
theorem SR.lts (h:SR w s j mb id R n):s<w.heap.size∧mb<w.heap.size:=by
 obtain ⟨r,D,hD,_⟩:=h
 exact ⟨row_ltJ r,hD.lt⟩
end
def updR (R:Nat→Bool) (d:Nat):Nat→Bool:=fun e=>if e=d then true else R e
structure SP (w0 w:World) (s j mb p q:Nat) (id:Int) (R:Nat→Bool) (n:Nat) (E:Nat→Nat×St) (over:Bool) (B:ByteArray) (l:Int):Prop where
 jp:JP w0 w j p q E over B l
 sr:SR w s j mb id R n
 ns:¬ In3 j p q s
 nm:¬ In3 j p q mb
 sm:s≠mb
 s0:w0.heap.size≤s
 m0:w0.heap.size≤mb
section
variable {w0 w w':World} {s j mb p q n:Nat} {id:Int} {R:Nat→Bool} {E E':Nat→Nat×St} {over over':Bool} {B B':ByteArray} {l l':Int}
theorem SP.later (h:SP w0 w s j mb p q id R n E over B l) (hb:Below w.heap.size w w'):SP w0 w' s j mb p q id R n E over B l:=⟨h.jp.later hb,h.sr.later hb,h.ns,h.nm,h.sm,h.s0,h.m0⟩
theorem SP.drew (h:SP w0 w s j mb p q id R n E over B l):SP w0 w.drew s j mb p q id R n E over B l:=h.later (Below.refl _ _).drew
theorem SP.mono {m:Nat} (h:SP w0 w s j mb p q id R n E over B l) (hn:n≤m):SP w0 w s j mb p q id R m E over B l:=⟨h.jp,h.sr.mono hn,h.ns,h.nm,h.sm,h.s0,h.m0⟩
theorem SP.turn (h:SP w0 w s j mb p q id R n E over B l) (hj:JP w0 w' j p q E' over' B' l') (hk:Kept (In3 j p q) w w'):SP w0 w' s j mb p q id R n E' over' B' l':=⟨hj,h.sr.kept hk h.ns h.nm,h.ns,h.nm,h.sm,h.s0,h.m0⟩
theorem SP.far {S:Nat→Prop} (h:SP w0 w s j mb p q id R n E over B l) (k:Kept S w w') (hS:∀ x,S x→w0.heap.size≤x) (hd:∀ x,In3 j p q x→¬ S x) (h1:¬ S s) (h2:¬ S mb):SP w0 w' s j mb p q id R n E over B l:=⟨h.jp.far k hS hd,h.sr.kept k h1 h2,h.ns,h.nm,h.sm,h.s0,h.m0⟩
theorem SP.lts (h:SP w0 w s j mb p q id R n E over B l):s<w.heap.size∧mb<w.heap.size∧j<w.heap.size∧p<w.heap.size∧q<w.heap.size:=⟨h.sr.lts.1,h.sr.lts.2,h.jp.jr.lt,row_lt h.jp.pl.head,row_lt h.jp.pl.row⟩
end
theorem rheld_is (B:ByteArray) (k n h1 h2 h3:Nat) (z:Int) (w:World) (hz:z=(k:Int)) (hB:B.size≤1000) (hk:18 * (k+1)≤B.size) (h:heldL k (slotL B.data.toList k)=(n,⟨h1,h2,h3⟩)) :
  Calls Tryz.prog 152 #[.string B,.int .i64 z] w fun e w'=>e=.returned (.tuple #[.int .i64 (n:Int),.agg #[.int .i64 (h1:Int),.int .i64 (h2:Int),.int .i64 (h3:Int)]])∧Below w.heap.size w w':=by
 subst hz
 have:=rheld_any B k w hB hk
 rw [h] at this
 exact this
theorem rdeal_any (B:ByteArray) (d n h1 h2 h3:Nat) (w:World) (hB:B.size≤1000) (hd:36 * (d+1)≤B.size) (h:dealL B.data.toList d=(n,⟨h1,h2,h3⟩)) :
  Calls Tryz.prog 97 #[.string B,.int .i64 (d:Int)] w fun e w'=>e=.returned (.tuple #[.int .i64 (n:Int),.agg #[.int .i64 (h1:Int),.int .i64 (h2:Int),.int .i64 (h3:Int)]])∧Below w.heap.size w w':=by
 obtain ⟨⟨n1,a1,a2,a3⟩,HA⟩:∃ x,Hid (heldL (2 * d) (slotL B.data.toList (2 * d))=x):=⟨_,rfl⟩
 obtain ⟨⟨n2,b1,b2,b3⟩,HBb⟩:∃ x,Hid (heldL (2 * d+1) (slotL B.data.toList (2 * d+1))=x):=⟨_,rfl⟩
 have HD:Hid ((if n1<n2 then (n2,(⟨b1,b2,b3⟩:St)) else (n1,⟨a1,a2,a3⟩))=(n,⟨h1,h2,h3⟩)):=by unfold Hid; rw [← h]; unfold dealL; rw [HA.out,HBb.out]
 have Z1:Hid ((2 * (d:Int))=((2 * d:Nat):Int)):=by unfold Hid; omega
 have Z2:Hid ((2 * (d:Int)+1)=((2 * d+1:Nat):Int)):=by unfold Hid; omega
 clear h
 obtain ⟨X0,HX0⟩:∃ X,Hid (w.alloc (.cells #[.int .i64 0,.int .i64 0,.int .i64 0] 80)=X):=⟨_,rfl⟩
 have hX0:=HX0.out
 have R0:Hid (X0.heap[w.heap.size]? = some (.cells #[.int .i64 0,.int .i64 0,.int .i64 0] 80 (0,0))):=by rw [← HX0.out]; exact heap_alloc_new w _
 have HB0:Hid (Below w.heap.size w X0):=by rw [← HX0.out]; exact (Below.refl _ _).alloc (Nat.le_refl _) _
 go_enter Tryz.func97,Tryz.ntmps97
 go_wp2_with fail
 refine (rheld_is B (2 * d) n1 a1 a2 a3 _ _ Z1.out hB (by omega) HA.out).mono ?_
 rintro e w1 ⟨rfl,hb1⟩
 have R1:=hid ((hb1.block _ (row_ltJ R0.out)).trans R0.out)
 have HB1:=hid (HB0.out.trans (hb1.mono HB0.out.size))
 clear hb1
 obtain ⟨X1,HX1⟩:∃ X,Hid (w1.alloc (.cells #[.int .i64 (a1:Int),.int .i64 (a2:Int),.int .i64 (a3:Int)] 80)=X):=⟨_,rfl⟩
 obtain ⟨g1,Hg1⟩:∃ n,Hid (w1.heap.size=n):=⟨_,rfl⟩
 have hX1:=HX1.out
 have hg1:=Hg1.out
 have S1:Hid (X1.heap[g1]? = some (.cells #[.int .i64 (a1:Int),.int .i64 (a2:Int),.int .i64 (a3:Int)] 80 (0,0))):=by rw [← HX1.out,← Hg1.out]; exact heap_alloc_new w1 _
 have R1b:Hid (X1.heap[w.heap.size]? = some (.cells #[.int .i64 0,.int .i64 0,.int .i64 0] 80 (0,0))):=by rw [← HX1.out]; exact (Below.heap_alloc w1 _ _ (row_ltJ R1.out)).trans R1.out
 have HB1b:Hid (Below w.heap.size w X1):=by rw [← HX1.out]; exact HB1.out.alloc HB1.out.size _
 go_wp2_with fail
 refine (rheld_is B (2 * d+1) n2 b1 b2 b3 _ _ Z2.out hB (by omega) HBb.out).mono ?_
 rintro e w2 ⟨rfl,hb2⟩
 have R2:=hid ((hb2.block _ (row_ltJ R1b.out)).trans R1b.out)
 have S2:=hid ((hb2.block _ (row_ltJ S1.out)).trans S1.out)
 have HB2:=hid (HB1b.out.trans (hb2.mono HB1b.out.size))
 clear hb2
 obtain ⟨X2,HX2⟩:∃ X,Hid (w2.alloc (.cells #[.int .i64 (b1:Int),.int .i64 (b2:Int),.int .i64 (b3:Int)] 80)=X):=⟨_,rfl⟩
 obtain ⟨g2,Hg2⟩:∃ n,Hid (w2.heap.size=n):=⟨_,rfl⟩
 have hX2:=HX2.out
 have hg2:=Hg2.out
 have S3:Hid (X2.heap[g2]? = some (.cells #[.int .i64 (b1:Int),.int .i64 (b2:Int),.int .i64 (b3:Int)] 80 (0,0))):=by rw [← HX2.out,← Hg2.out]; exact heap_alloc_new w2 _
 have S2b:Hid (X2.heap[g1]? = some (.cells #[.int .i64 (a1:Int),.int .i64 (a2:Int),.int .i64 (a3:Int)] 80 (0,0))):=by rw [← HX2.out]; exact (Below.heap_alloc w2 _ _ (row_ltJ S2.out)).trans S2.out
 have R2b:Hid (X2.heap[w.heap.size]? = some (.cells #[.int .i64 0,.int .i64 0,.int .i64 0] 80 (0,0))):=by rw [← HX2.out]; exact (Below.heap_alloc w2 _ _ (row_ltJ R2.out)).trans R2.out
 have HB2b:Hid (Below w.heap.size w X2):=by rw [← HX2.out]; exact HB2.out.alloc HB2.out.size _
 have v0:X2.cell? ⟨w.heap.size,0,none⟩=some (.int .i64 0):=by rw [cell_of_row _ _ _ _ _ _ R2b.out]; rfl
 have v1:X2.cell? ⟨w.heap.size,1,none⟩=some (.int .i64 0):=by rw [cell_of_row _ _ _ _ _ _ R2b.out]; rfl
 have v2:X2.cell? ⟨w.heap.size,2,none⟩=some (.int .i64 0):=by rw [cell_of_row _ _ _ _ _ _ R2b.out]; rfl
 have f0:=frozen_of_row X2 w.heap.size 0 _ _ R2b.out
 have f1:=frozen_of_row X2 w.heap.size 1 _ _ R2b.out
 have f2:=frozen_of_row X2 w.heap.size 2 _ _ R2b.out
 have c0:X2.cell? ⟨g1,0,none⟩=some (.int .i64 (a1:Int)):=by rw [cell_of_row _ _ _ _ _ _ S2b.out]; rfl
 have c1:X2.cell? ⟨g1,1,none⟩=some (.int .i64 (a2:Int)):=by rw [cell_of_row _ _ _ _ _ _ S2b.out]; rfl
 have c2:X2.cell? ⟨g1,2,none⟩=some (.int .i64 (a3:Int)):=by rw [cell_of_row _ _ _ _ _ _ S2b.out]; rfl
 have e0:X2.cell? ⟨g2,0,none⟩=some (.int .i64 (b1:Int)):=by rw [cell_of_row _ _ _ _ _ _ S3.out]; rfl
 have e1:X2.cell? ⟨g2,1,none⟩=some (.int .i64 (b2:Int)):=by rw [cell_of_row _ _ _ _ _ _ S3.out]; rfl
 have e2:X2.cell? ⟨g2,2,none⟩=some (.int .i64 (b3:Int)):=by rw [cell_of_row _ _ _ _ _ _ S3.out]; rfl
 have hdd:=HD.out
 by_cases hc:n1<n2
 ·rw [if_pos hc] at hdd
  obtain ⟨rfl,rfl,rfl,rfl⟩:n2=n∧b1=h1∧b2=h2∧b3=h3:=by simpa using hdd
  clear hdd
  go_wp2_with fail
  go_region
  all_goals go_wp2_with fail
  refine bodyPost_ret (results_row3 rfl _ _ w.heap.size 80 _ (0,0) _ rfl (set3R R2b.out _ _ _) Tryz.underlying80 rfl sizeStR) rfl ?_
  exact ⟨rfl,(((HB2b.out.setCell (Nat.le_refl _) _).setCell (Nat.le_refl _) _).setCell (Nat.le_refl _) _).drew⟩
 ·rw [if_neg hc] at hdd
  obtain ⟨rfl,rfl,rfl,rfl⟩:n1=n∧a1=h1∧a2=h2∧a3=h3:=by simpa using hdd
  clear hdd
  go_wp2_with fail
  go_region
  all_goals go_wp2_with fail
  refine bodyPost_ret (results_row3 rfl _ _ w.heap.size 80 _ (0,0) _ rfl (set3R R2b.out _ _ _) Tryz.underlying80 rfl sizeStR) rfl ?_
  exact ⟨rfl,(((HB2b.out.setCell (Nat.le_refl _) _).setCell (Nat.le_refl _) _).setCell (Nat.le_refl _) _).drew⟩
end Go.Proofs.YtaehdgemkafinaaGreatDoor
namespace Go.Proofs.YtaehdgemkafinaaGreatDoor
open Go.RowKit
def numsTo (E:Nat→Nat×St) (k:Nat):List Value:=(List.range k).map fun d=>.int .i64 ((E d).1:Int)
def statesTo (E:Nat→Nat×St) (k:Nat):List Value:=(List.range k).flatMap fun d=>[.int .i64 ((E d).2.ph:Int),.int .i64 ((E d).2.pr:Int),.int .i64 ((E d).2.at_:Int)]
theorem numsTo_succ (E:Nat→Nat×St) (k:Nat):numsTo E (k+1)=numsTo E k ++ [.int .i64 ((E k).1:Int)]:=by simp [numsTo,List.range_succ]
theorem statesTo_succ (E:Nat→Nat×St) (k:Nat):statesTo E (k+1)=statesTo E k ++ [.int .i64 ((E k).2.ph:Int),.int .i64 ((E k).2.pr:Int),.int .i64 ((E k).2.at_:Int)]:=by simp [statesTo,List.range_succ]
structure OpS (w0 w:World) (m r:Nat) (E:Nat→Nat×St) (vN vS:Value) (k1 k2:Nat):Prop where
 row:w.heap[m]? = some (.cells #[.pointer (some ⟨r,0,none⟩),vN,vS,.bool false] 117 (0,0))
 nN:w.ownsRow (m+1) 3 1 vN k1 (numsTo E k1)
 nS:w.ownsRow (m+1) 80 3 vS k2 (statesTo E k2)
 ne:∀ b,vN.ownBlock=some b→vS.ownBlock≠some b
 bel:Below m w0 w
section
variable {w0 w W w':World} {m r:Nat} {E:Nat→Nat×St} {vN vS:Value} {k1 k2:Nat}
theorem OpS.mlt (h:OpS w0 w m r E vN vS k1 k2):m<w.heap.size:=row_ltJ h.row
theorem OpS.later (h:OpS w0 w m r E vN vS k1 k2) (hb:Below w.heap.size w w'):OpS w0 w' m r E vN vS k1 k2 :=
 ⟨(hb.block _ h.mlt).trans h.row,own_later h.nN hb (Nat.le_refl _),own_later h.nS hb (Nat.le_refl _),h.ne,h.bel.trans (hb.mono (Nat.le_of_lt h.mlt))⟩
theorem own_setOther {e:TypeId} {size n base:Nat} {v:Value} {xs:List Value} (h:w.ownsRow base e size v n xs) (hm:m<base) (i:Nat) (x:Value):(w.setCell ⟨m,i,none⟩ x).ownsRow base e size v n xs:=by
 refine ⟨h.1,?_⟩
 rcases h.2 with hn|⟨g,cap,cur,rfl,hb',hgg,rest⟩
 ·exact .inl hn
 ·exact .inr ⟨g,cap,cur,rfl,hb',(Below.heap_setCell _ _ _ _ (by show g≠m; omega)).trans hgg,rest⟩
theorem grown_row {row:Option Nat} (hg:W.grownBy w' row) {b:Nat} {o:Obj} (h:W.heap[b]? = some o) (hne:some b≠row):w'.heap[b]? = some o:=(hg.block b (row_ltJ h) hne).trans h
theorem OpS.pushN {g n cap H:Nat} (h:OpS w0 w m r E vN vS k1 k2) (hb:Below w.heap.size w W) (hg:W.grownBy w' vN.ownBlock) (hown:w'.ownsRow (m+1) 3 1 (.slice (some ⟨g,0,none⟩) n cap) (k1+1) (numsTo E (k1+1)))
  (hat:vN.ownBlock=some g ∨ g=H) (hH:w.heap.size≤H):OpS w0 (w'.setCell ⟨m,1,none⟩ (.slice (some ⟨g,0,none⟩) n cap)) m r E (.slice (some ⟨g,0,none⟩) n cap) vS (k1+1) k2:=by
 have hW:=h.later hb
 have hmn:some m≠vN.ownBlock:=fun e=>by have:=(h.nN.lt m e.symm).1; omega
 have hr:=grown_row hg hW.row hmn
 refine ⟨heap_setCell_same w' m 1 _ _ _ hr,own_setOther hown (by omega) _ _,own_setOther (hW.nS.kept hg ?_) (by omega) _ _,?_,?_⟩
 ·cases hs:vS.ownBlock with
  | none=>exact .inl rfl
  | some b=>exact .inr fun e=>(h.ne b e.symm) hs
 ·intro b hb' hs
  have hbg:b=g:=by simpa [Value.ownBlock] using hb'.symm
  subst hbg
  rcases hat with e|e
  ·exact h.ne _ e hs
  ·have:=(h.nS.lt _ hs).2; omega
 ·refine (Below.grown hW.bel hg (Nat.le_of_lt hW.mlt) ?_).setCell (Nat.le_refl _) _
  intro j hj
  have:=(h.nN.lt j hj).1
  omega
theorem OpS.pushS {g n cap H:Nat} (h:OpS w0 w m r E vN vS k1 k2) (hb:Below w.heap.size w W) (hg:W.grownBy w' vS.ownBlock) (hown:w'.ownsRow (m+1) 80 3 (.slice (some ⟨g,0,none⟩) n cap) (k2+1) (statesTo E (k2+1)))
  (hat:vS.ownBlock=some g ∨ g=H) (hH:w.heap.size≤H):OpS w0 (w'.setCell ⟨m,2,none⟩ (.slice (some ⟨g,0,none⟩) n cap)) m r E vN (.slice (some ⟨g,0,none⟩) n cap) k1 (k2+1):=by
 have hW:=h.later hb
 have hmn:some m≠vS.ownBlock:=fun e=>by have:=(h.nS.lt m e.symm).1; omega
 have hr:=grown_row hg hW.row hmn
 refine ⟨heap_setCell_same w' m 2 _ _ _ hr,own_setOther (hW.nN.kept hg ?_) (by omega) _ _,own_setOther hown (by omega) _ _,?_,?_⟩
 ·cases hs:vN.ownBlock with
  | none=>exact .inl rfl
  | some b=>exact .inr fun e=>h.ne b hs e.symm
 ·intro b hb' hs
  have hbg:b=g:=by simpa [Value.ownBlock] using hs.symm
  subst hbg
  rcases hat with e|e
  ·exact h.ne _ hb' e
  ·have:=(h.nN.lt _ hb').2; omega
 ·refine (Below.grown hW.bel hg (Nat.le_of_lt hW.mlt) ?_).setCell (Nat.le_refl _) _
  intro j hj
  have:=(h.nS.lt j hj).1
  omega
end
structure RJ (w:World) (m gn gs r:Nat) (E:Nat→Nat×St) (dead:Bool):Prop where
 row:∃ cn cs,w.heap[m]? = some (.cells #[.pointer (some ⟨r,0,none⟩),.slice (some ⟨gn,0,none⟩) 6 cn,.slice (some ⟨gs,0,none⟩) 6 cs,.bool dead] 117 (0,0))
 nums:∃ N,w.heap[gn]? = some (.cells N 3 (0,0))∧∀ d,d<6→N[d]? = some (.int .i64 ((E d).1:Int))
 sts:∃ S,w.heap[gs]? = some (.cells S 80 (0,0))∧∀ d,d<6→S[d * 3]? = some (.int .i64 ((E d).2.ph:Int))∧S[d * 3+1]? = some (.int .i64 ((E d).2.pr:Int))∧S[d * 3+2]? = some (.int .i64 ((E d).2.at_:Int))
 mn:m≠gn
 ms:m≠gs
 ns:gn≠gs
theorem OpS.done {w0 w:World} {m r:Nat} {E:Nat→Nat×St} {vN vS:Value} (h:OpS w0 w m r E vN vS 6 6):∃ gn gs,RJ w m gn gs r E false∧m<gn∧m<gs:=by
 obtain ⟨row,nN,nS,ne,bel⟩:=h
 have hN:=nN
 have hS:=nS
 rcases nN.2 with ⟨_,h0⟩|⟨gn,cn,N,rfl,b1,hN1,-,-,-,htN⟩
 ·omega
 rcases nS.2 with ⟨_,h0⟩|⟨gs,cs,S,rfl,b2,hS1,-,-,-,htS⟩
 ·omega
 refine ⟨gn,gs,⟨⟨cn,cs,row⟩,⟨N,hN1,?_⟩,⟨S,hS1,?_⟩,by omega,by omega,?_⟩,by omega,by omega⟩
 ·intro d hd
  have:=hN.cellAt d (by omega)
  rw [cell_of_row _ _ _ _ _ _ hN1] at this
  rw [this]
  rcases six hd with rfl|rfl|rfl|rfl|rfl|rfl <;> rfl
 ·intro d hd
  have c0:=hS.cellAt (d * 3) (by omega)
  have c1:=hS.cellAt (d * 3+1) (by omega)
  have c2:=hS.cellAt (d * 3+2) (by omega)
  rw [cell_of_row _ _ _ _ _ _ hS1] at c0 c1 c2
  rw [c0,c1,c2]
  rcases six hd with rfl|rfl|rfl|rfl|rfl|rfl <;> exact ⟨rfl,rfl,rfl⟩
 ·intro e
  subst e
  exact ne gn rfl rfl
end Go.Proofs.YtaehdgemkafinaaGreatDoor
namespace Go.Proofs.YtaehdgemkafinaaGreatDoor
open Go.RowKit
theorem Tryz.infoS:(Tryz.prog.info? 80).map (fun i=>(i.zero,i.size,i.bytes))=some (some (.agg #[.int .i64 0,.int .i64 0,.int .i64 0]),3,24):=by kernel_rfl
theorem ropen_any (r:Nat) (B:ByteArray) (off cuts:Bool) (l:Int) (w:World) (h:RP w r B off l cuts) (hB:B.size≤1000) (h6:216≤B.size) :
  Calls Tryz.prog 80 #[.pointer (some ⟨r,0,none⟩)] w fun e w'=>∃ m gn gs,e=.returned (.pointer (some ⟨m,0,none⟩))∧RJ w' m gn gs r (dealL B.data.toList) false∧Below w.heap.size w w'∧w.heap.size≤m∧w.heap.size≤gn∧w.heap.size≤gs:=by
 obtain ⟨i0,hi,hz0,hz1,hz2⟩:=info_parts Tryz.infoI
 obtain ⟨j0,hj,hy0,hy1,hy2⟩:=info_parts Tryz.infoS
 obtain ⟨E,HE⟩:∃ E,Hid (dealL B.data.toList=E):=⟨_,rfl⟩
 rw [HE.out]
 have H:=hid h
 have hrl:r<w.heap.size:=row_ltJ h
 clear h
 obtain ⟨W,HW⟩:∃ W,Hid (w.alloc (.cells #[.pointer (some ⟨r,0,none⟩),.slice none 0 0,.slice none 0 0,.bool false] 117)=W):=⟨_,rfl⟩
 have hW:=HW.out
 have H0:Hid (OpS w W w.heap.size r E (.slice none 0 0) (.slice none 0 0) 0 0):=by
  rw [← HW.out]
  exact ⟨heap_alloc_new w _,World.ownsRow_nil _ _ _ _,World.ownsRow_nil _ _ _ _,fun b hb=>by simp [Value.ownBlock] at hb,(Below.refl _ _).alloc (Nat.le_refl _) _⟩
 obtain ⟨m,Hm⟩:∃ m,Hid (w.heap.size=m):=⟨_,rfl⟩
 have hm:=Hm.out
 rw [hm] at H0
 go_enter Tryz.func80,Tryz.ntmps80
 go_wp2_with fail
 go_loopw [4] (fun i wr=>∃ k:Nat,∃ vN vS:Value,k≤6∧i=.int .i64 (k:Int)∧OpS w wr m r E vN vS k k) (fun i _=>6 - (intOf i).toNat)
 case atStart=>exact ⟨0,_,_,by omega,rfl,H0.out⟩
 case round =>
  obtain ⟨k,vN,vS,hk,rfl,hop⟩:=hrel
  have HO:=hid hop
  clear hop
  by_cases hlt:k<6
  ·have cr:wr.cell? ⟨r,0,none⟩=some (.string B):=(H.out.kept (S:=fun _=>False) (Kept.of_below (by rw [Hm.out]; exact HO.out.bel)) (fun x=>x)).c0
   obtain ⟨⟨n,h1,h2,h3⟩,HD⟩:∃ x,Hid (E k=x):=⟨_,rfl⟩
   have HD2:Hid (dealL B.data.toList k=(n,⟨h1,h2,h3⟩)):=by rw [HE.out]; exact HD.out
   go_wp2_with fail
   refine (rdeal_any B k n h1 h2 h3 wr hB (by omega) HD2.out).mono ?_
   rintro e w1 ⟨rfl,hb1⟩
   obtain ⟨X1,HX1⟩:∃ X,Hid (w1.alloc (.cells #[.int .i64 (h1:Int),.int .i64 (h2:Int),.int .i64 (h3:Int)] 80)=X):=⟨_,rfl⟩
   obtain ⟨sb,Hsb⟩:∃ n,Hid (w1.heap.size=n):=⟨_,rfl⟩
   have hsb:=Hsb.out
   have HB1:Hid (Below wr.heap.size wr X1):=by rw [← HX1.out]; exact hb1.alloc hb1.size _
   have HS1:Hid (X1.heap[sb]? = some (.cells #[.int .i64 (h1:Int),.int .i64 (h2:Int),.int .i64 (h3:Int)] 80 (0,0))):=by rw [← HX1.out,← Hsb.out]; exact heap_alloc_new w1 _
   have HO1:=hid (HO.out.later HB1.out)
   have HOw:=hid (HO.out.later hb1)
   have mlt:m<sb:=by have h1:=HO.out.mlt; have h2:=hb1.size; have h3:=Hsb.out; omega
   have cN:w1.cell? ⟨m,1,none⟩=some vN:=by rw [cell_of_row _ _ _ _ _ _ HOw.out.row]; rfl
   have HNS:Hid (numsTo E (k+1)=numsTo E k ++ [.int .i64 (n:Int)]):=by unfold Hid; rw [numsTo_succ,HD.out]
   have HSS:Hid (statesTo E (k+1)=statesTo E k ++ [.int .i64 (h1:Int),.int .i64 (h2:Int),.int .i64 (h3:Int)]):=by unfold Hid; rw [statesTo_succ,HD.out]
   have HWr:Hid (wr.heap.size≤w1.heap.size):=hb1.size
   have HO1r:Hid (((w1.alloc (.cells #[.int .i64 (h1:Int),.int .i64 (h2:Int),.int .i64 (h3:Int)] 80)).alloc (.cells #[.int .i64 (n:Int)] 3)).heap[m]? = some (.cells #[.pointer (some ⟨r,0,none⟩),vN,vS,.bool false] 117 (0,0))):=by
    rw [HX1.out]; exact (Below.heap_alloc _ _ _ HO1.out.mlt).trans HO1.out.row
   clear hb1 cr
   go_wp2_with (at_builtin; refine wpList_append_lies _ rfl (.tmp 27) (.tmp 29) 34 rfl (m+1) 3 i0 (.int .i64 0) 1 8 Tryz.underlying34 hi hz0 hz1 hz2 rfl (by decide) vN k (numsTo E k) rfl (by exact World.ownsRow.alloc (World.ownsRow.alloc HOw.out.nN _) _) ⟨sb+1,0,none⟩ 1 1 [.int .i64 (n:Int)] rfl rfl ?d3 ?d4 (by decide) ?d5 ?d6 ?d7 (sb+2) ?d8 ?_)
   case d3 =>
    have e:((w1.alloc (.cells #[.int .i64 (h1:Int),.int .i64 (h2:Int),.int .i64 (h3:Int)] 80)).heap.size)=sb+1:=by rw [← Hsb.out]; simp
    rw [← e]
    exact lit_cells _ _ _
   case d4=>intro u hu; simp at hu; subst hu; rfl
   case d5=>unfold maxLen; omega
   case d6=>omega
   case d7=>simp; omega
   case d8=>simp; omega
   intro g3 c3 w3 hown3 hg3 hat3 hlt3
   have HX2:Hid (Below wr.heap.size wr ((w1.alloc (.cells #[.int .i64 (h1:Int),.int .i64 (h2:Int),.int .i64 (h3:Int)] 80)).alloc (.cells #[.int .i64 (n:Int)] 3))):=by
    rw [HX1.out]; exact HB1.out.alloc HB1.out.size _
   have HP:=hid (HO.out.pushN HX2.out hg3 (by rw [HNS.out]; exact hown3) hat3 (by have h1:=HWr.out; have h3:=Hsb.out; omega))
   have HS3:Hid (w3.heap[sb]? = some (.cells #[.int .i64 (h1:Int),.int .i64 (h2:Int),.int .i64 (h3:Int)] 80 (0,0))):=by
    refine grown_row hg3 (b:=sb) ?_ ?_
    ·rw [HX1.out]; exact (Below.heap_alloc _ _ _ (row_ltJ HS1.out)).trans HS1.out
    ·intro e
     have h1:=(HO.out.nN.lt sb e.symm).2
     have h2:=HOw.out.bel.size
     have h3:=HB1.out.size
     have h4:=Hsb.out
     have h5:=HWr.out
     omega
   have hr3:=grown_row hg3 (b:=m) (HO1r.out) (fun e=>by have:=(HO.out.nN.lt m e.symm).1; omega)
   have x1:w3.cell? ⟨m,1,none⟩=some vN:=by rw [cell_of_row _ _ _ _ _ _ hr3]; rfl
   have y1:=frozen_of_row w3 m 1 _ _ hr3
   clear hown3 hg3 hat3
   obtain ⟨X3,HX3⟩:∃ X,Hid (w3.setCell ⟨m,1,none⟩ (.slice (some ⟨g3,0,none⟩) (k+1) c3)=X):=⟨_,rfl⟩
   rw [HX3.out] at HP
   have HS4:Hid (X3.heap[sb]? = some (.cells #[.int .i64 (h1:Int),.int .i64 (h2:Int),.int .i64 (h3:Int)] 80 (0,0))):=by
    rw [← HX3.out]; exact (Below.heap_setCell _ _ _ _ (by show sb≠m; omega)).trans HS3.out
   go_wp2_with fail
   rw [HX3.out]
   clear x1 y1 cN
   have x2:X3.cell? ⟨m,2,none⟩=some vS:=by rw [cell_of_row _ _ _ _ _ _ HP.out.row]; rfl
   have s0:X3.cell? ⟨sb,0,none⟩=some (.int .i64 (h1:Int)):=by rw [cell_of_row _ _ _ _ _ _ HS4.out]; rfl
   have s1:X3.cell? ⟨sb,1,none⟩=some (.int .i64 (h2:Int)):=by rw [cell_of_row _ _ _ _ _ _ HS4.out]; rfl
   have s2:X3.cell? ⟨sb,2,none⟩=some (.int .i64 (h3:Int)):=by rw [cell_of_row _ _ _ _ _ _ HS4.out]; rfl
   have mx3:=HP.out.mlt
   have HNM:Hid (some m≠vS.ownBlock):=fun e=>by have:=(HO.out.nS.lt m e.symm).1; omega
   have HNB:Hid (some sb≠vS.ownBlock):=fun e=>by have h1:=(HO.out.nS.lt sb e.symm).2; have h2:=HWr.out; have h3:=Hsb.out; omega
   have HBX:Hid (Below X3.heap.size X3 (X3.alloc (.cells #[.int .i64 (h1:Int),.int .i64 (h2:Int),.int .i64 (h3:Int)] 80)).drew):=((Below.refl _ _).alloc (Nat.le_refl _) _).drew
   go_region_law ((refine step_append_lies _ (by rfl) _ _ _ (by rfl) (m+1) 80 j0 (.agg #[.int .i64 0,.int .i64 0,.int .i64 0]) 3 24 Tryz.underlying115 hj hy0 hy1 hy2 (by rfl) (by decide) vS k (statesTo E k) (by rfl) (by exact World.ownsRow.alloc HP.out.nS _) ⟨X3.heap.size,0,none⟩ 1 1 [.int .i64 (h1:Int),.int .i64 (h2:Int),.int .i64 (h3:Int)] (by rfl) (by rfl) (by exact lit_cells X3 _ _) (by intro u hu; simp at hu; rcases hu with rfl|rfl|rfl <;> rfl) (by decide) (by unfold maxLen; omega) (by omega) (by exact Nat.le_trans mx3 (by simp)) (X3.heap.size+1) (by simp) ?_; intro g5 c5 w5 hown5 hg5 hat5 hlt5; have HQ5:=hid (HP.out.pushS HBX.out hg5 (by rw [HSS.out]; exact hown5) hat5 (by omega)); have hr5:=grown_row hg5 (b:=m) (show (X3.alloc (.cells #[.int .i64 (h1:Int),.int .i64 (h2:Int),.int .i64 (h3:Int)] 80)).drew.heap[m]? = _ from (Below.heap_alloc X3 _ _ mx3).trans HP.out.row) HNM.out; have hs5:=grown_row hg5 (b:=sb) (show (X3.alloc (.cells #[.int .i64 (h1:Int),.int .i64 (h2:Int),.int .i64 (h3:Int)] 80)).drew.heap[sb]? = _ from (Below.heap_alloc X3 _ _ (row_ltJ HS4.out)).trans HS4.out) HNB.out; have x2':w5.cell? ⟨m,2,none⟩=some vS:=(by rw [cell_of_row _ _ _ _ _ _ hr5]; rfl); have y2':=frozen_of_row w5 m 2 _ _ hr5; have s0':w5.cell? ⟨sb,0,none⟩=some (.int .i64 (h1:Int)):=(by rw [cell_of_row _ _ _ _ _ _ hs5]; rfl); have s1':w5.cell? ⟨sb,1,none⟩=some (.int .i64 (h2:Int)):=(by rw [cell_of_row _ _ _ _ _ _ hs5]; rfl); have s2':w5.cell? ⟨sb,2,none⟩=some (.int .i64 (h3:Int)):=(by rw [cell_of_row _ _ _ _ _ _ hs5]; rfl); clear hr5 hs5 hown5 hg5 hat5 hlt5))
   all_goals go_wp2_with fail
   all_goals go_roundw
   case rel=>exact ⟨k+1,_,_,by omega,by go_num,by first|exact HQ5.out|exact HQ5.out.later (Below.refl _ _).drew⟩
   case measure=>simp [intOf]; omega
   all_goals first|exact ⟨k+1,_,_,by omega,by go_num,by first|exact HQ5.out|exact HQ5.out.later (Below.refl _ _).drew⟩|(simp [intOf]; omega)
  ·obtain rfl:k=6:=by omega
   obtain ⟨gn,gs,hj,b1,b2⟩:=HO.out.done
   have HJ:=hid hj
   have HBl:=hid HO.out.bel
   clear hj
   go_wp2_with fail
   go_ret
   exact ⟨m,gn,gs,rfl,HJ.out,by have:=HBl.out; rw [← Hm.out] at this; exact this,by omega,by omega,by omega⟩
theorem Tryz.infoBo:(Tryz.prog.info? 4).map (fun i=>(i.zero,i.size,i.bytes))=some (some (.bool false),1,1):=by kernel_rfl
theorem made_bo:madeCells (Value.bool false).cells 6=#[.bool false,.bool false,.bool false,.bool false,.bool false,.bool false]:=by first|rfl|kernel_rfl
theorem mkBo (w:World):(Instr.makeSlice 67 (.int .i64 6) (.int .i64 6)).run Tryz.prog w=.ok (.slice (some ⟨w.heap.size,0,none⟩) 6 6) (w.alloc (.cells #[.bool false,.bool false,.bool false,.bool false,.bool false,.bool false] 4)):=by
 obtain ⟨i0,hi,hz0,hz1,hz2⟩:=info_parts Tryz.infoBo
 have hr:=run_make (P:=Tryz.prog) w 67 4 i0 _ Tryz.underlying67 hi hz0 .i64 .i64 6 6 (by omega) (Int.le_refl _) (by rw [hz2]; decide) (by decide)
 rw [hz1,show Int.toNat 6 * 1=6 from rfl,made_bo] at hr
 exact hr
def VR (w:World) (b:Nat) (V:Nat→Bool):Prop:=w.heap[b]? = some (.cells #[.bool (V 0),.bool (V 1),.bool (V 2),.bool (V 3),.bool (V 4),.bool (V 5)] 4 (0,0))
def updB (V:Nat→Bool) (d:Nat) (x:Bool):Nat→Bool:=fun e=>if e=d then x else V e
section
variable {w w':World} {b d:Nat} {V:Nat→Bool}
theorem VR.at_ (h:VR w b V) (hd:d<6):w.cell? ⟨b,d,none⟩=some (.bool (V d)):=by
 rw [cell_of_row _ _ _ _ _ _ h]
 rcases six hd with rfl|rfl|rfl|rfl|rfl|rfl <;> rfl
theorem VR.fz (h:VR w b V) (i:Nat):w.frozen? ⟨b,i,none⟩=false:=frozen_of_row w b i _ _ h
theorem VR.set (h:VR w b V) (hd:d<6) (x:Bool):VR (w.setCell ⟨b,d,none⟩ (.bool x)) b (updB V d x):=by
 unfold VR
 rw [heap_setCell_same w b d _ _ (.bool x) h]
 rcases six hd with rfl|rfl|rfl|rfl|rfl|rfl <;> rfl
end
end Go.Proofs.YtaehdgemkafinaaGreatDoor
