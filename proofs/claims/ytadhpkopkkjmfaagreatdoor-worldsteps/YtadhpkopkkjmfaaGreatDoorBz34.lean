/-
  On the way to WStepsProof: TF TK L8 QD QG QH RE S3S S1.
-/
import Derived.Test.YtadhpkopkkjmfaaGreatDoorBz22
import Derived.Test.YtadhpkopkkjmfaaGreatDoorBz9
import Derived.Test.YtadhpkopkkjmfaaGreatDoorBz32
set_option maxHeartbeats 8000000
set_option maxRecDepth 100000
namespace Go.Proofs.YtadhpkopkkjmfaaGreatDoor
open Go.RowKit
theorem hasP_take (p:Int) (L:List S3) (k:Nat) (h:k<L.length):hasP p (L.take (k+1))=(hasP p (L.take k) || decide (L[k].p=p)):=by
 unfold hasP; rw [take_snoc L k h,List.any_append]; simp
theorem hasP_in (p:Int) (L:List S3) (k:Nat) (h:k<L.length) (e:L[k].p=p):hasP p L=true:=(hasP_iff p L).2 ⟨_,List.getElem_mem h,e⟩
theorem preL_take (b:Int) (L:List S3) (k:Nat) (h:k<L.length):preL b (L.take (k+1))=(preL b (L.take k) || decide (L[k].p=4∧L[k].a=b)):=by
 unfold preL; rw [take_snoc L k h,List.any_append]; simp
theorem preL_in (b:Int) (L:List S3) (k:Nat) (h:k<L.length) (e:L[k].p=4) (e2:L[k].a=b):preL b L=true:=(preL_iff b L).2 ⟨_,List.getElem_mem h,e,e2⟩
theorem be_take (L:List S3) (k:Nat) (h:k<L.length):be (L.take (k+1))=beS (be (L.take k)) L[k]:=by rw [take_snoc L k h,be_snoc]
theorem told_any (a:Option Addr) (cap:Nat) (L:List S3) (ph:Int) (w:World) (hl:L.length≤200) (hL:SL w a L) :
  Calls Tryz.prog 183 #[.slice a L.length cap,.int .i64 ph] w fun e w'=>e=.returned (.bool (hasP ph L))∧w'=w:=by
 have HX:=hid hL
 have HT:Hid (hasP ph (L.take L.length)=hasP ph L):=by unfold Hid; rw [List.take_length]
 obtain ⟨r,Hr⟩:∃ r,Hid (hasP ph L=r):=⟨_,rfl⟩
 rw [Hr.out]
 clear hL
 go_enter Tryz.func183,Tryz.ntmps183
 go_wp2_with fail
 go_loop [5] (fun i=>∃ k:Nat,k≤L.length∧i=.int .i64 (k:Int)∧hasP ph (L.take k)=false) (fun i=>L.length - (intOf i).toNat)
 case atStart=>exact ⟨0,Nat.zero_le _,rfl,rfl⟩
 case round =>
  obtain ⟨k,hk,rfl,hf⟩:=hrel
  have HF:=hid hf
  clear hf
  by_cases hlt:k<L.length
  ·have HG:=hid (hasP_take ph L k hlt)
   have HI:=hid (hasP_in ph L k hlt)
   obtain ⟨b,o,rfl,y0,y1,y2⟩:=HX.out k hlt
   obtain ⟨⟨sp,sr,sa⟩,HS⟩:∃ s,Hid (L[k]'hlt=s):=⟨_,rfl⟩
   rw [HS.out] at y0 y1 y2 HG HI
   clear HS
   by_cases h1:sp=ph
   ·subst h1
    obtain rfl:true=r:=(HI.out rfl).symm.trans Hr.out
    clear HG HI
    go_wp2_with fail
    go_ret
    exact ⟨rfl,rfl⟩
   ·have G:Hid (hasP ph (L.take (k+1))=false):=by unfold Hid; rw [HG.out,HF.out]; simpa using h1
    clear HG HI
    go_wp2_with fail
    go_round
    case rel=>exact ⟨k+1,by omega,by go_num,G.out⟩
    case measure=>simp [intOf]; omega
  ·obtain rfl:k=L.length:=by omega
   obtain rfl:false=r:=HF.out.symm.trans (HT.out.trans Hr.out)
   go_wp2_with fail
   go_ret
   exact ⟨rfl,rfl⟩
theorem told_is (a:Option Addr) (cap:Nat) (L:List S3) (ph:Int) (r:Bool) (w:World) (hl:L.length≤200) (hL:SL w a L) (h:hasP ph L=r) :
  Calls Tryz.prog 183 #[.slice a L.length cap,.int .i64 ph] w fun e w'=>e=.returned (.bool r)∧w'=w:=by subst h; exact told_any a cap L ph w hl hL
theorem rchoose_any (a:Option Addr) (cap:Nat) (L:List S3) (w:World) (hl:L.length≤200) (hL:SL w a L) :
  Calls Tryz.prog 163 #[.slice a L.length cap] w fun e w'=>e=.returned (.tuple #[.int .i64 (refL L).1,.bool (refL L).2])∧w'=w:=by
 have HX:=hid hL
 obtain ⟨⟨cp,cf⟩,HC⟩:∃ x,Hid (refL L=x):=⟨_,rfl⟩
 rw [HC.out]
 obtain ⟨i2,H2⟩:∃ x,Hid (hasP 2 L=x):=⟨_,rfl⟩
 obtain ⟨i3,H3⟩:∃ x,Hid (hasP 3 L=x):=⟨_,rfl⟩
 have HD:Hid ((if i2=true then ((2:Int),true) else if i3=true then (3,true) else if preL (be L).2 L=true then (4,false) else (5,false))=(cp,cf)):=by
  unfold Hid; rw [← HC.out]; unfold refL; rw [H2.out,H3.out]
 have HT:Hid (be (L.take L.length)=be L):=by unfold Hid; rw [List.take_length]
 clear hL HC
 cases i2 with
 | true =>
  obtain ⟨rfl,rfl⟩:(2:Int)=cp∧true=cf:=by simpa using HD.out
  clear HD
  go_enter Tryz.func163,Tryz.ntmps163
  go_wp2_with (go_at_call 183; (with_reducible refine (told_is a cap L 2 true _ hl HX.out H2.out).mono ?_); rintro e wx ⟨rfl,rfl⟩)
  go_ret2
  exact ⟨rfl,rfl⟩
 | false =>
  cases i3 with
  | true =>
   obtain ⟨rfl,rfl⟩:(3:Int)=cp∧true=cf:=by simpa using HD.out
   clear HD
   go_enter Tryz.func163,Tryz.ntmps163
   go_wp2_with (go_at_call 183; first|((with_reducible refine (told_is a cap L 2 false _ hl HX.out H2.out).mono ?_); rintro e wx ⟨rfl,rfl⟩)|((with_reducible refine (told_is a cap L 3 true _ hl HX.out H3.out).mono ?_); rintro e wx ⟨rfl,rfl⟩))
   go_ret2
   exact ⟨rfl,rfl⟩
  | false =>
   have HD2:Hid ((if preL (be L).2 L=true then ((4:Int),false) else (5,false))=(cp,cf)):=by unfold Hid; simpa using HD.out
   clear HD
   go_enter Tryz.func163,Tryz.ntmps163
   go_wp2_with (go_at_call 183; first|((with_reducible refine (told_is a cap L 2 false _ hl HX.out H2.out).mono ?_); rintro e wx ⟨rfl,rfl⟩)|((with_reducible refine (told_is a cap L 3 false _ hl HX.out H3.out).mono ?_); rintro e wx ⟨rfl,rfl⟩))
   go_loop [4,5,6] (fun f b i=>∃ k:Nat,k≤L.length∧f=.bool (be (L.take k)).1∧b=.int .i64 (be (L.take k)).2∧i=.int .i64 (k:Int)) (fun _ _ i=>L.length - (intOf i).toNat)
   case atStart=>exact ⟨0,Nat.zero_le _,rfl,rfl,rfl⟩
   case round =>
    obtain ⟨k,hk,rfl,rfl,rfl⟩:=hrel
    by_cases hlt:k<L.length
    ·have HG:=hid (be_take L k hlt)
     obtain ⟨b,o,rfl,y0,y1,y2⟩:=HX.out k hlt
     obtain ⟨⟨sp,sr,sa⟩,HS⟩:∃ s,Hid (L[k]'hlt=s):=⟨_,rfl⟩
     rw [HS.out] at y0 y1 y2 HG
     obtain ⟨⟨f,m⟩,HM⟩:∃ x,Hid (be (L.take k)=x):=⟨_,rfl⟩
     rw [HM.out] at HG ⊢
     clear HS HM HD2
     by_cases h4:sp=4
     ·subst h4
      have G0:Hid (be (L.take (k+1))=(false,if f=true ∨ m<sa then sa else m)):=by unfold Hid; rw [HG.out]; unfold beS; exact if_pos (.inl rfl)
      clear HG
      cases f with
      | true =>
       have G:Hid (be (L.take (k+1))=(false,sa)):=by unfold Hid; rw [G0.out,if_pos (.inl rfl)]
       clear G0
       go_wp2_with fail
       go_round
       case rel=>exact ⟨k+1,by omega,by rw [G.out],by rw [G.out],by go_num⟩
       case measure=>simp [intOf]; omega
      | false =>
       by_cases hm:m<sa
       ·have G:Hid (be (L.take (k+1))=(false,sa)):=by unfold Hid; rw [G0.out,if_pos (.inr hm)]
        clear G0
        go_wp2_with fail
        go_round
        case rel=>exact ⟨k+1,by omega,by rw [G.out],by rw [G.out],by go_num⟩
        case measure=>simp [intOf]; omega
       ·have G:Hid (be (L.take (k+1))=(false,m)):=by unfold Hid; rw [G0.out,if_neg (by simpa using hm)]
        clear G0
        go_wp2_with fail
        go_round
        case rel=>exact ⟨k+1,by omega,by rw [G.out],by rw [G.out],by go_num⟩
        case measure=>simp [intOf]; omega
     ·by_cases h5:sp=5
      ·subst h5
       have G0:Hid (be (L.take (k+1))=(false,if f=true ∨ m<sa then sa else m)):=by unfold Hid; rw [HG.out]; unfold beS; exact if_pos (.inr rfl)
       clear HG
       cases f with
       | true =>
        have G:Hid (be (L.take (k+1))=(false,sa)):=by unfold Hid; rw [G0.out,if_pos (.inl rfl)]
        clear G0
        go_wp2_with fail
        go_round
        case rel=>exact ⟨k+1,by omega,by rw [G.out],by rw [G.out],by go_num⟩
        case measure=>simp [intOf]; omega
       | false =>
        by_cases hm:m<sa
        ·have G:Hid (be (L.take (k+1))=(false,sa)):=by unfold Hid; rw [G0.out,if_pos (.inr hm)]
         clear G0
         go_wp2_with fail
         go_round
         case rel=>exact ⟨k+1,by omega,by rw [G.out],by rw [G.out],by go_num⟩
         case measure=>simp [intOf]; omega
        ·have G:Hid (be (L.take (k+1))=(false,m)):=by unfold Hid; rw [G0.out,if_neg (by simpa using hm)]
         clear G0
         go_wp2_with fail
         go_round
         case rel=>exact ⟨k+1,by omega,by rw [G.out],by rw [G.out],by go_num⟩
         case measure=>simp [intOf]; omega
      ·have G:Hid (be (L.take (k+1))=(f,m)):=by unfold Hid; rw [HG.out]; unfold beS; exact if_neg (fun h=>h.elim h4 h5)
       clear HG
       have d4:(sp == 4)=false:=beq_eq_false_iff_ne.2 h4
       have d5:(sp == 5)=false:=beq_eq_false_iff_ne.2 h5
       simp only at y0 y1 y2
       go_wp2_with fail
       go_round
       case rel=>exact ⟨k+1,by omega,by rw [G.out],by rw [G.out],by go_num⟩
       case measure=>simp [intOf]; omega
    ·obtain rfl:k=L.length:=by omega
     rw [HT.out]
     obtain ⟨⟨f,m⟩,HM⟩:∃ x,Hid (be L=x):=⟨_,rfl⟩
     rw [HM.out] at HD2 ⊢
     have HT2:Hid (preL m (L.take L.length)=preL m L):=by unfold Hid; rw [List.take_length]
     clear HT HM
     go_wp2_with fail
     go_loop [7] (fun i=>∃ k:Nat,k≤L.length∧i=.int .i64 (k:Int)∧preL m (L.take k)=false) (fun i=>L.length - (intOf i).toNat)
     case atStart=>exact ⟨0,Nat.zero_le _,rfl,rfl⟩
     case round =>
      obtain ⟨k,hk,rfl,hf⟩:=hrel
      have HF:=hid hf
      clear hf
      by_cases hlt:k<L.length
      ·have HG:=hid (preL_take m L k hlt)
       have HI:=hid (preL_in m L k hlt)
       obtain ⟨b,o,rfl,y0,y1,y2⟩:=HX.out k hlt
       obtain ⟨⟨sp,sr,sa⟩,HS⟩:∃ s,Hid (L[k]'hlt=s):=⟨_,rfl⟩
       rw [HS.out] at y0 y1 y2 HG HI
       clear HS
       by_cases h1:sp=4
       ·subst h1
        by_cases h2:sa=m
        ·subst h2
         have hd2:=HD2.out
         rw [if_pos (HI.out rfl rfl)] at hd2
         obtain ⟨rfl,rfl⟩:(4:Int)=cp∧false=cf:=by simpa using hd2
         clear hd2 HD2 HG HI
         go_wp2_with fail
         go_ret2
         exact ⟨rfl,rfl⟩
        ·have G:Hid (preL m (L.take (k+1))=false):=by unfold Hid; rw [HG.out,HF.out]; simpa using h2
         clear HG HI
         go_wp2_with fail
         go_round
         case rel=>exact ⟨k+1,by omega,by go_num,G.out⟩
         case measure=>simp [intOf]; omega
       ·have G:Hid (preL m (L.take (k+1))=false):=by unfold Hid; rw [HG.out,HF.out]; simp [h1]
        clear HG HI
        go_wp2_with fail
        go_round
        case rel=>exact ⟨k+1,by omega,by go_num,G.out⟩
        case measure=>simp [intOf]; omega
      ·obtain rfl:k=L.length:=by omega
       have hd2:=HD2.out
       rw [if_neg (by rw [← HT2.out,HF.out]; decide)] at hd2
       obtain ⟨rfl,rfl⟩:(5:Int)=cp∧false=cf:=by simpa using hd2
       clear hd2 HD2
       go_wp2_with fail
       go_ret2
       exact ⟨rfl,rfl⟩
theorem rafter_any (a:Int) (w:World):Calls Tryz.prog 162 #[.int .i64 a] w fun e w'=>e=.returned (.int .i64 (afterI a))∧w'=w:=by
 unfold afterI
 by_cases h4:a=4
 ·subst h4
  go_enter Tryz.func162,Tryz.ntmps162
  go_wp2
  go_ret
  exact ⟨rfl,rfl⟩
 ·rw [if_neg h4]
  by_cases h5:a=5
  ·subst h5
   go_enter Tryz.func162,Tryz.ntmps162
   go_wp2
   go_ret
   exact ⟨rfl,rfl⟩
  ·rw [if_neg h5]
   go_enter Tryz.func162,Tryz.ntmps162
   go_wp2
   go_ret
   exact ⟨rfl,rfl⟩
section
variable {w:World} {lb id n cap:Nat} {deal att:Int} {aw:Option Addr} {st:ByteArray} {wait:Int} {vh:Value} {hs:List F9} {ph seen:Int}
structure HL (w W:World) (lb id n cap:Nat) (deal att:Int) (aw:Option Addr) (st:ByteArray) (wait:Int) (vh:Value) (hs:List F9) (ph seen:Int) (f:Nat) (k:Int) (y:Bool) (p1 p2 p3:Int):Prop where
 ld:RLd W lb id n cap deal att aw st wait vh hs ph seen
 fr:FIn w W f id deal k att y p1 p2 p3
 kp:Kept (In1 lb) w W
theorem HL.later {W V:World} {f:Nat} {k:Int} {y:Bool} {p1 p2 p3:Int} (h:HL w W lb id n cap deal att aw st wait vh hs ph seen f k y p1 p2 p3) (hb:Below W.heap.size W V):HL w V lb id n cap deal att aw st wait vh hs ph seen f k y p1 p2 p3 :=
 ⟨h.ld.later hb,h.fr.later hb,h.kp.trans (Kept.of_below hb)⟩
theorem HL.setSeen {W:World} {f:Nat} {k:Int} {y:Bool} {p1 p2 p3:Int} (h:HL w W lb id n cap deal att aw st wait vh hs ph seen f k y p1 p2 p3) (hlb:lb<w.heap.size) (x:Int):HL w (W.setCell ⟨lb,8,none⟩ (.int .i64 x)) lb id n cap deal att aw st wait vh hs ph x f k y p1 p2 p3 :=
 ⟨h.ld.setSeen x,⟨(heap_setCell_other _ _ _ _ (by show w.heap.size≠lb; omega)).trans h.fr.row⟩,h.kp.set1 8 _⟩
theorem rlhear_no (f:Nat) (k:Int) (p1 p2 p3 sn:Int) (h:RLd w lb id n cap deal att aw st k vh hs ph seen) (hl:hs.length≤100) (hk:k=2 ∨ k=4 ∨ k=6) (hf:f<n) (hx:fromL hs f=none) (hn7:n≤7) (hsn:(if k≠2∧seen<p2 then p2 else seen)=sn) :
  Calls Tryz.prog 126 #[.pointer (some ⟨lb,0,none⟩),frV f id deal k att false p1 p2 p3] w fun e w'=>∃ v,e=.returned v∧IsFr w' v (if k=2 then sentL id deal 7 att 3 true n else [])∧RLd w' lb id n cap deal att aw (if k=2 then stB 2 else stB 3) 0 vh hs ph sn∧Kept (In1 lb) w w':=by
 obtain ⟨W,HW⟩:∃ W,Hid (w.alloc (.cells #[.int .i64 (f:Int),.int .i64 (id:Int),.int .i64 deal,.int .i64 k,.int .i64 att,.bool false,.int .i64 p1,.int .i64 p2,.int .i64 p3] 104)=W):=⟨_,rfl⟩
 have HB:Hid (Below w.heap.size w W):=by rw [← HW.out]; exact (Below.refl _ _).alloc (Nat.le_refl _) _
 have hlbw:lb<w.heap.size:=row_ltJ h.row
 have HI:Hid (HL w W lb id n cap deal att aw st k vh hs ph seen f k false p1 p2 p3):=⟨h.later HB.out,by rw [← HW.out]; exact ⟨heap_alloc_new w _⟩,Kept.of_below HB.out⟩
 obtain ⟨b0,b1,b2,b3,b4,b5,b6,b7,b8⟩:=nine HI.out.fr.row
 obtain ⟨c0,c1,c2,c3,c4,c5,c6,c7,c8⟩:=HI.out.ld.cells
 have hW:=HW.out
 have e0:(k == 0)=false:=beq_eq_false_iff_ne.2 (by omega)
 have f7:¬ (n:Int)≤(f:Int):=by omega
 have HX:=hid hx
 clear h hx
 go_enter Tryz.func126,Tryz.ntmps126
 go_wp2_with fail
 go_quiet (fail)
 have HB2:=hid (below_drewN (Below.refl W.heap.size W) nq)
 generalize W.drewN nq=V at HB2 ⊢
 have HI2:=hid (HI.out.later HB2.out)
 clear b0 b1 b2 b3 b4 b5 b6 b7 b8 c0 c1 c2 c3 c4 c5 c6 c7 c8 HI HB2 hW HW HB e0 f7
 obtain ⟨b0,b1,b2,b3,b4,b5,b6,b7,b8⟩:=nine HI2.out.fr.row
 go_wp2_with fail
 refine (rlfrom_any lb id n cap deal att aw st k vh hs ph seen f _ HI2.out.ld (by omega)).mono ?_
 rw [HX.out,frO_none]
 simp only [Option.isSome]
 rintro e w1 ⟨rfl,hb1⟩
 have HI3:=hid ((HI2.out.later hb1).later ((Below.refl _ _).alloc (Nat.le_refl _) (.cells #[.int .i64 0,.int .i64 0,.int .i64 0,.int .i64 0,.int .i64 0,.bool false,.int .i64 0,.int .i64 0,.int .i64 0] 104)))
 clear hb1
 obtain ⟨X,HXw⟩:∃ X,Hid (w1.alloc (.cells #[.int .i64 0,.int .i64 0,.int .i64 0,.int .i64 0,.int .i64 0,.bool false,.int .i64 0,.int .i64 0,.int .i64 0] 104)=X):=⟨_,rfl⟩
 rw [HXw.out] at HI3
 clear b0 b1 b2 b3 b4 b5 b6 b7 b8 HI2
 obtain ⟨b0,b1,b2,b3,b4,b5,b6,b7,b8⟩:=nine HI3.out.fr.row
 obtain ⟨c0,c1,c2,c3,c4,c5,c6,c7,c8⟩:=HI3.out.ld.cells
 have z8:=HI3.out.ld.fz 8
 have HSn:=hid hsn
 clear hsn
 obtain ⟨bb,HBB⟩:∃ b:Bool,Hid (decide (k≠2∧seen<p2)=b):=⟨_,hid (Eq.refl _)⟩
 go_upto_region 13 with fail
 rw [HXw.out]
 go_cut [92] from 16 (fun s92 wx=>s92=.bool bb∧Below X.heap.size X wx)
 case first =>
  by_cases g1:k=2
  ·have hb:bb=false:=by rw [← HBB.out]; exact decide_eq_false (fun x=>x.1 g1)
   subst hb
   subst g1
   go_quiet (fail)
   go_wp2_with fail
   go_meet
   exact ⟨rfl,below_drewN (Below.refl _ _) _⟩
  ·have e1:(k != 2)=true:=bne_iff_ne.2 g1
   by_cases g2:seen<p2
   ·have hb:bb=true:=by rw [← HBB.out]; exact decide_eq_true ⟨g1,g2⟩
    subst hb
    go_quiet (fail)
    go_wp2_with fail
    go_meet
    exact ⟨rfl,below_drewN (Below.refl _ _) _⟩
   ·have hb:bb=false:=by rw [← HBB.out]; exact decide_eq_false (fun x=>g2 x.2)
    subst hb
    go_quiet (fail)
    go_wp2_with fail
    go_meet
    exact ⟨rfl,below_drewN (Below.refl _ _) _⟩
 obtain ⟨rfl,hbx⟩:=hcut
 rename_i wc
 have HI4:=hid (HI3.out.later hbx)
 clear hbx b0 b1 b2 b3 b4 b5 b6 b7 b8 c0 c1 c2 c3 c4 c5 c6 c7 c8 z8 HI3 HXw
 generalize wc=X2 at *
 obtain ⟨b0,b1,b2,b3,b4,b5,b6,b7,b8⟩:=nine HI4.out.fr.row
 obtain ⟨c0,c1,c2,c3,c4,c5,c6,c7,c8⟩:=HI4.out.ld.cells
 have z8:=HI4.out.ld.fz 8
 go_upto_if 92 with fail
 go_cut [] from 16 (fun wx=>HL w wx lb id n cap deal att aw st k vh hs ph sn f k false p1 p2 p3)
 case first =>
  cases bb with
  | true =>
   have hq:=of_decide_eq_true HBB.out
   have HSe:Hid (sn=p2):=by unfold Hid; rw [← HSn.out]; exact if_pos hq
   go_wp2_with fail
   go_meet
   rw [HSe.out]
   exact HI4.out.setSeen hlbw p2
  | false =>
   have hq:=of_decide_eq_false HBB.out
   have HSe:Hid (sn=seen):=by unfold Hid; rw [← HSn.out]; exact if_neg hq
   go_wp2_with fail
   go_meet
   rw [HSe.out]
   exact HI4.out
 rename_i wc
 have HI5:=hid hcut
 clear hcut HI4 b0 b1 b2 b3 b4 b5 b6 b7 b8 c0 c1 c2 c3 c4 c5 c6 c7 c8 z8
 generalize wc=X3 at *
 obtain ⟨b0,b1,b2,b3,b4,b5,b6,b7,b8⟩:=nine HI5.out.fr.row
 obtain ⟨c0,c1,c2,c3,c4,c5,c6,c7,c8⟩:=HI5.out.ld.cells
 by_cases g1:k=2
 ·subst g1
  go_wp2_with fail
  refine (rldecide_any 3 HI5.out.ld (by omega)).mono ?_
  rintro e v1 ⟨v,rfl,hv,hr,hk1⟩
  have HV:=hid hv
  have HR:=hid hr
  have HK:=hid (HI5.out.kp.trans hk1)
  clear hv hr hk1
  go_wp2_with fail
  go_ret
  exact ⟨_,rfl,HV.out,HR.out,HK.out⟩
 ·have e1:(k == 2)=false:=beq_eq_false_iff_ne.2 g1
  have z4:=HI5.out.ld.fz 4
  have z5:=HI5.out.ld.fz 5
  have HF:=hid ((HI5.out.ld.setSt (stB 3)).setWait 0)
  have HK:Hid (Kept (In1 lb) w ((X3.setCell ⟨lb,4,none⟩ (.string (stB 3))).setCell ⟨lb,5,none⟩ (.int .i64 0))):=(HI5.out.kp.set1 4 _).set1 5 _
  rw [stB3] at HF HK
  go_wp2_with fail
  go_ret
  exact ⟨_,rfl,by first|exact IsFr.zero _|(rw [if_neg g1]; exact IsFr.zero _),by first|exact HF.out|(rw [if_neg g1,stB3]; exact HF.out),HK.out⟩
end
theorem orAll:((List.range 128).all fun s=>(List.range 7).all fun q=>Nat.testBit s q || decide (s ||| 2 ^ q=s+2 ^ q))=true:=by decide +kernel
theorem ansS_add {a:Int} {m:Nat} (h0:0≤a) (h1:a<128) (hm:m<7) (hb:bit a m=false):ansS a m=a+2 ^ m:=by
 obtain ⟨n,rfl⟩:=Int.eq_ofNat_of_zero_le h0
 have hn:n<128:=by omega
 have h:=List.all_eq_true.1 (List.all_eq_true.1 orAll n (List.mem_range.2 hn)) m (List.mem_range.2 hm)
 unfold bit at hb
 rw [Int.toNat_natCast] at hb
 rw [hb,Bool.false_or] at h
 have h2:=of_decide_eq_true h
 have h3:(2:Nat) ^ m<9223372036854775808:=Nat.lt_of_lt_of_le (Nat.pow_lt_pow_right (by decide) hm) (by decide)
 unfold ansS
 rw [pow_nat,bits_or_nat n (2 ^ m) (by omega) h3,h2,Int.natCast_add]
theorem waits_ways {P:PL} {att k:Int} (h:waitsB P att k=true):(k=2∧P.stt=0∧att=0) ∨ (k=4∧P.stt=0∧0<att) ∨ (k=6∧P.stt=1):=by
 unfold waitsB at h
 simp at h
 omega
theorem gr_same' {p:Int} {L M:List S3} (h:∀ s:S3,s.p=p→(s∈L ↔ s∈M)):gr p L=gr p M:=by
 rcases gr_of p L with ⟨h1,⟨t,ht,hp,ha⟩,h3⟩|⟨h1,h2⟩
 ·rcases gr_of p M with ⟨g1,⟨u,hu,up,ua⟩,g3⟩|⟨g1,g2⟩
  ·have a1:=g3 t ((h t hp).1 ht) hp
   have a2:=h3 u ((h u up).2 hu) up
   refine Prod.ext ?_ (h1.trans g1.symm)
   omega
  ·exact absurd hp (g2 t ((h t hp).1 ht))
 ·rcases gr_of p M with ⟨g1,⟨u,hu,up,ua⟩,g3⟩|⟨g1,g2⟩
  ·exact absurd up (h2 u ((h u up).2 hu))
  ·rw [h1,g1]
theorem choose_same' {L M:List S3} (h:∀ s:S3,s.p≠0→(s∈L ↔ s∈M)):chooseL L=chooseL M:=by
 unfold chooseL
 rw [gr_same' (p:=2) (fun s e=>h s (by omega)),gr_same' (p:=3) (fun s e=>h s (by omega)),gr_same' (p:=4) (fun s e=>h s (by omega)),gr_same' (p:=5) (fun s e=>h s (by omega))]
theorem fromL_snoc (hs:List F9) (f:F9) (i:Int):fromL (hs ++ [f]) i=(fromL hs i).or (if f.f=i then some f else none):=by
 unfold fromL
 rw [List.find?_append]
 congr 1
 by_cases h:f.f=i
 ·rw [if_pos h]; simp [h]
 ·rw [if_neg h]; simp [h]
theorem fromL_other {hs:List F9} {f:F9} {i:Int} (h:f.f≠i):fromL (hs ++ [f]) i=fromL hs i:=by
 rw [fromL_snoc,if_neg h,Option.or_none]
theorem fromL_new {hs:List F9} {f:F9} (h:fromL hs f.f=none):fromL (hs ++ [f]) f.f=some f:=by
 rw [fromL_snoc,h,if_pos rfl]; rfl
theorem setTo_snoc {hs:List F9} {f:F9} {m:Nat} (hm:f.f=(m:Int)) (hn:fromL hs m=none):∀ k,setTo (hs ++ [f]) k=setTo hs k+(if m<k then 2 ^ m else 0)
 | 0=>by simp [setTo]
 | k+1=>by
  unfold setTo
  rw [setTo_snoc hm hn k]
  by_cases e:m=k
  ·subst e
   have h1:(fromL (hs ++ [f]) (m:Int)).isSome=true:=by rw [← hm,fromL_new (by rw [hm]; exact hn)]; rfl
   have h2:¬ (fromL hs (m:Int)).isSome=true:=by rw [hn]; simp
   rw [if_pos h1,if_neg h2,if_neg (by omega),if_pos (by omega)]
   omega
  ·rw [fromL_other (by omega)]
   by_cases g:m<k
   ·rw [if_pos g,if_pos (show m<k+1 by omega)]; split <;> omega
   ·rw [if_neg g,if_neg (show ¬ m<k+1 by omega)]; split <;> omega
theorem bit_addpow {a:Int} {k:Nat} (h0:0≤a) (h1:a<2 ^ k) (i:Nat):bit (a+2 ^ k) i=(decide (i=k) || bit a i):=by
 obtain ⟨n,rfl⟩:=Int.eq_ofNat_of_zero_le h0
 have hn:n<2 ^ k:=by
  have:((n:Nat):Int)<((2 ^ k:Nat):Int):=by rw [← pow_nat]; exact h1
  omega
 unfold bit
 have e:(((n:Nat):Int)+2 ^ k).toNat=2 ^ k+n:=by rw [pow_nat]; omega
 rw [e,Int.toNat_natCast]
 rcases Nat.lt_trichotomy i k with g|g|g
 ·rw [Nat.testBit_two_pow_add_gt g,decide_eq_false (by omega)]; rfl
 ·subst g
  rw [Nat.testBit_two_pow_add_eq,Nat.testBit_lt_two_pow hn,decide_eq_true rfl]; rfl
 ·have h2:2 ^ (k+1)≤2 ^ i:=Nat.pow_le_pow_right (by decide) g
  have h3:2 ^ (k+1)=2 * 2 ^ k:=by rw [Nat.pow_succ]; omega
  rw [Nat.testBit_lt_two_pow (by omega),Nat.testBit_lt_two_pow (by omega),decide_eq_false (by omega)]; rfl
theorem setTo_bit (hs:List F9):∀ (k i:Nat),bit (setTo hs k) i=(decide (i<k) && (fromL hs i).isSome)
 | 0,i=>by simp [setTo,bit]
 | k+1,i=>by
  obtain ⟨h0,h1⟩:=setTo_bd hs k
  unfold setTo
  by_cases g:(fromL hs (k:Int)).isSome=true
  ·rw [if_pos g,bit_addpow h0 h1,setTo_bit hs k i]
   by_cases e:i=k
   ·subst e; rw [g]; simp
   ·rw [decide_eq_false e,Bool.false_or]
    by_cases l:i<k
    ·rw [decide_eq_true l,decide_eq_true (show i<k+1 by omega)]
    ·rw [decide_eq_false l,decide_eq_false (show ¬ i<k+1 by omega)]
  ·rw [if_neg g,setTo_bit hs k i]
   by_cases e:i=k
   ·subst e
    have:(fromL hs (i:Int)).isSome=false:=by simpa using g
    rw [this]; simp
   ·by_cases l:i<k
    ·rw [decide_eq_true l,decide_eq_true (show i<k+1 by omega)]
    ·rw [decide_eq_false l,decide_eq_false (show ¬ i<k+1 by omega)]
def cntTo (hs:List F9):Nat→Nat
 | 0=>0
 | k+1=>if (fromL hs k).isSome=true then cntTo hs k+1 else cntTo hs k
theorem cntTo_le (hs:List F9):∀ k,cntTo hs k≤k
 | 0=>Nat.le_refl _
 | k+1=>by have:=cntTo_le hs k; unfold cntTo; split <;> omega
theorem cntTo_snoc {hs:List F9} {f:F9} {m:Nat} (hm:f.f=(m:Int)) (hn:fromL hs m=none):∀ k,cntTo (hs ++ [f]) k=cntTo hs k+(if m<k then 1 else 0)
 | 0=>by simp [cntTo]
 | k+1=>by
  unfold cntTo
  rw [cntTo_snoc hm hn k]
  by_cases e:m=k
  ·subst e
   have h1:(fromL (hs ++ [f]) (m:Int)).isSome=true:=by rw [← hm,fromL_new (by rw [hm]; exact hn)]; rfl
   have h2:¬ (fromL hs (m:Int)).isSome=true:=by rw [hn]; simp
   rw [if_pos h1,if_neg h2,if_neg (by omega),if_pos (by omega)]
  ·rw [fromL_other (by omega)]
   by_cases g:m<k
   ·rw [if_pos g,if_pos (show m<k+1 by omega)]; split <;> omega
   ·rw [if_neg g,if_neg (show ¬ m<k+1 by omega)]; split <;> omega
theorem all_iff (hs:List F9):∀ k,(cntTo hs k=k ↔ setTo hs k=2 ^ k - 1)
 | 0=>by simp [cntTo,setTo]
 | k+1=>by
  have ih:=all_iff hs k
  have h1:=cntTo_le hs k
  obtain ⟨h2,h3⟩:=setTo_bd hs k
  have e:(2:Int) ^ (k+1)=2 * 2 ^ k:=by rw [Int.pow_succ]; omega
  unfold cntTo setTo
  rw [e]
  by_cases g:(fromL hs (k:Int)).isSome=true
  ·rw [if_pos g,if_pos g]; omega
  ·rw [if_neg g,if_neg g]; omega
theorem cntTo_nil:∀ k,cntTo [] k=0
 | 0=>rfl
 | k+1=>by unfold cntTo; rw [if_neg (by simp [fromL]),cntTo_nil k]
theorem setTo_nil:∀ k,setTo [] k=0
 | 0=>rfl
 | k+1=>by unfold setTo; rw [if_neg (by simp [fromL]),setTo_nil k]
def tl (hs:List F9) (i:Nat):S3:=match fromL hs i with
 | none=>⟨0,0,0⟩
 | some x=>⟨x.ph,x.pr,x.pa⟩
theorem mem_toldTo (hs:List F9) (s:S3):∀ k,(s∈toldTo hs k ↔ ∃ i,i<k∧∃ x,fromL hs (i:Nat)=some x∧s=⟨x.ph,x.pr,x.pa⟩)
 | 0=>by
  unfold toldTo
  constructor
  ·intro h; cases h
  ·rintro ⟨i,hi,-⟩; omega
 | k+1=>by
  have ih:=mem_toldTo hs s k
  unfold toldTo
  cases hf:fromL hs (k:Int) with
  | none =>
   simp only
   rw [ih]
   constructor
   ·rintro ⟨i,hi,x,hx,e⟩; exact ⟨i,by omega,x,hx,e⟩
   ·rintro ⟨i,hi,x,hx,e⟩
    refine ⟨i,?_,x,hx,e⟩
    rcases Nat.lt_or_ge i k with g|g
    ·exact g
    ·obtain rfl:i=k:=by omega
     rw [hf] at hx; cases hx
  | some y =>
   simp only [List.mem_append,List.mem_singleton]
   rw [ih]
   constructor
   ·rintro (⟨i,hi,x,hx,e⟩|e)
    ·exact ⟨i,by omega,x,hx,e⟩
    ·exact ⟨k,by omega,y,hf,e⟩
   ·rintro ⟨i,hi,x,hx,e⟩
    rcases Nat.lt_or_ge i k with g|g
    ·exact .inl ⟨i,g,x,hx,e⟩
    ·obtain rfl:i=k:=by omega
     rw [hf] at hx
     obtain rfl:=Option.some.inj hx
     exact .inr e
theorem fromL_mem {hs:List F9} {i:Int} {x:F9} (h:fromL hs i=some x):x∈hs∧x.f=i:=by
 unfold fromL at h
 exact ⟨List.mem_of_find?_eq_some h,by simpa using List.find?_some h⟩
theorem choose_told {hs:List F9} {n:Nat} (hn:n≤7) (hs0:∀ x,x∈hs→0≤x.f∧x.f<n):chooseL ((List.range 7).map (tl hs))=refL (toldTo hs n):=by
 rw [← choose_ref]
 refine choose_same' fun s hp=>?_
 rw [mem_toldTo,List.mem_map]
 constructor
 ·rintro ⟨i,hi,rfl⟩
  unfold tl at hp ⊢
  cases hf:fromL hs (i:Int) with
  | none=>rw [hf] at hp; exact absurd rfl hp
  | some x =>
   obtain ⟨h1,h2⟩:=fromL_mem hf
   have:=(hs0 x h1).2
   exact ⟨i,by omega,x,hf,rfl⟩
 ·rintro ⟨i,hi,x,hx,rfl⟩
  refine ⟨i,List.mem_range.2 (by omega),?_⟩
  unfold tl
  rw [hx]
theorem told_new {hs:List F9} {f:F9} {m:Nat} (hm:f.f=(m:Int)) (hn:fromL hs m=none) (h7:m<7):toldS ((List.range 7).map (tl hs)) m ⟨f.ph,f.pr,f.pa⟩=(List.range 7).map (tl (hs ++ [f])):=by
 refine List.ext_getElem? fun i=>?_
 show (((List.range 7).map (tl hs)).set m ⟨f.ph,f.pr,f.pa⟩)[i]? = _
 rw [List.getElem?_set]
 by_cases e:m=i
 ·subst e
  rw [if_pos rfl,if_pos (by simpa using h7),List.getElem?_map,List.getElem?_range h7]
  simp only [Option.map_some]
  unfold tl
  rw [← hm,fromL_new (by rw [hm]; exact hn)]
 ·rw [if_neg e,List.getElem?_map,List.getElem?_map]
  rcases Nat.lt_or_ge i 7 with g|g
  ·rw [List.getElem?_range g]
   simp only [Option.map_some]
   unfold tl
   rw [fromL_other (by omega)]
  ·rw [List.getElem?_eq_none (by simpa using g)]
   rfl
theorem sent_to (id:Nat) (deal kind att ph:Int):∀ k,sentL id deal kind att ph true k=toL id deal kind att ph k
 | 0=>rfl
 | k+1=>by
  unfold sentL toL
  rw [if_neg (by simp),sent_to id deal kind att ph k]
structure Rel (n:Nat) (att:Int) (P:PL) (L:LSt):Prop where
 pw:PW n P
 stt:P.stt=L.stt
 st4:P.stt<4
 wait:L.wait=if P.stt=0 then (if att=0 then 2 else 4) else if P.stt=1 then 6 else 0
 snd:∀ x,x∈L.hs→0≤x.f∧x.f<n
 cnt:P.stt≤1→L.hs.length=cntTo L.hs n
 ans:P.stt≤1→P.ans=setTo L.hs n
 told:P.stt=0→P.told=(List.range 7).map (tl (if att=0 then [] else L.hs))
 prep:P.stt=1→P.prep=L.ph
 seen:P.seen=L.seen
 has:P.has=false→P.seen=0
 pos:0≤P.seen
theorem Rel.waits {n:Nat} {att:Int} {P:PL} {L:LSt} (h:Rel n att P L) (h0:0≤att) (k:Int):waitsB P att k=true ↔ (L.wait≠0∧k=L.wait):=by
 rw [h.wait]
 constructor
 ·intro hw
  rcases waits_ways hw with ⟨rfl,hs,ha⟩|⟨rfl,hs,ha⟩|⟨rfl,hs⟩
  ·rw [if_pos hs,if_pos ha]; omega
  ·rw [if_pos hs,if_neg (by omega)]; omega
  ·rw [if_neg (by omega),if_pos hs]; omega
 ·rintro ⟨h1,h2⟩
  unfold waitsB
  by_cases g0:P.stt=0
  ·rw [if_pos g0] at h2
   by_cases ga:att=0
   ·rw [if_pos ga] at h2; subst h2; simp [g0,ga]
   ·rw [if_neg ga] at h2; subst h2; simp [g0]; omega
  ·rw [if_neg g0] at h1 h2
   by_cases g1:P.stt=1
   ·rw [if_pos g1] at h2; subst h2; simp [g1]
   ·rw [if_neg g1] at h1; exact absurd rfl h1
theorem Rel.takes {n id:Nat} {deal att:Int} {P:PL} {L:LSt} {f:F9} (h:Rel n att P L) (h0:0≤att):takesB n id deal att P f=true ↔ (forL n id deal att L f∧(fromL L.hs f.f).isSome=false):=by
 constructor
 ·intro ht
  obtain ⟨⟨h1,h2,h3⟩,hw,⟨h4,h5⟩,hb⟩:=takesB_in ht
  obtain ⟨g1,g2⟩:=(h.waits h0 f.k).1 hw
  refine ⟨⟨g1,g2,h2,h3,h1,h4,h5⟩,?_⟩
  have hst:P.stt≤1:=by
   rw [h.wait] at g1
   rcases Nat.lt_or_ge 1 P.stt with g|g
   ·rw [if_neg (by omega),if_neg (by omega)] at g1; exact absurd rfl g1
   ·exact g
  rw [h.ans hst,setTo_bit,decide_eq_true (show f.f.toNat<n by omega),Bool.true_and,show ((f.f.toNat:Nat):Int)=f.f by omega] at hb
  exact hb
 ·rintro ⟨⟨g1,g2,h2,h3,h1,h4,h5⟩,hb⟩
  have hst:P.stt≤1:=by
   rw [h.wait] at g1
   rcases Nat.lt_or_ge 1 P.stt with g|g
   ·rw [if_neg (by omega),if_neg (by omega)] at g1; exact absurd rfl g1
   ·exact g
  rw [tk_in ⟨h1,h2,h3⟩ ((h.waits h0 f.k).2 ⟨g1,g2⟩) ⟨h4,h5⟩,h.ans hst,setTo_bit,decide_eq_true (show f.f.toNat<n by omega),Bool.true_and,show ((f.f.toNat:Nat):Int)=f.f by omega,hb]
  rfl
theorem see_seen {P:PL} {p:Int} (h:P.has=false→P.seen=0) (h0:0≤P.seen) (hp:0≤p) :
  (seeP P p).seen=(if P.seen<p then p else P.seen)∧((seeP P p).has=false→(seeP P p).seen=0)∧0≤(seeP P p).seen:=by
 unfold seeP
 by_cases g:P.has=false ∨ P.seen<p
 ·rw [if_pos g]
  refine ⟨?_,fun e=>(by cases e),hp⟩
  show p=_
  by_cases l:P.seen<p
  ·rw [if_pos l]
  ·rw [if_neg l]
   rcases g with g|g
   ·have:=h g; omega
   ·exact absurd g l
 ·rw [if_neg g,if_neg (fun l=>g (.inr l))]
  exact ⟨rfl,h,h0⟩
section
variable {zs:List Int} {id:Nat} {deal att:Int} {P:PL} {L:LSt} {f:F9}
theorem Rel.step (h:Rel zs.length att P L) (h0:0≤att) (hn:zs.length≤7) (hp:f.k≠2→0≤f.pr) :
  (phear zs id deal att P f).2=(lhear zs id deal att L f).2∧Rel zs.length att (phear zs id deal att P f).1 (lhear zs id deal att L f).1:=by
 by_cases ht:takesB zs.length id deal att P f=true
 ·have hq:=(h.takes h0).1 ht
  obtain ⟨⟨w1,w2,-,-,-,r1,r2⟩,hnone⟩:=hq
  have hq:=(h.takes h0).1 ht
  obtain ⟨-,hw,-,hb⟩:=takesB_in ht
  obtain ⟨m,hm⟩:=Int.eq_ofNat_of_zero_le r1
  have hmn:m<zs.length:=by omega
  have htn:f.f.toNat=m:=by omega
  have hfn:fromL L.hs (m:Int)=none:=by rw [← hm]; exact Option.isSome_eq_false_iff.1 hnone |> Option.isNone_iff_eq_none.1
  have hp7:=(pow_le7 hn).1
  have hlo:=h.pw.lo
  have hhi:=h.pw.hi
  have hst:P.stt≤1:=by
   rcases waits_ways hw with ⟨-,hs,-⟩|⟨-,hs,-⟩|⟨-,hs⟩ <;> omega
  have hans:(noteP P f).ans=setTo (L.hs ++ [f]) zs.length:=by
   show ansS P.ans f.f.toNat=_
   rw [htn] at hb ⊢
   rw [ansS_add hlo (by omega) (by omega) hb,setTo_snoc hm hfn,if_pos hmn,h.ans hst]
  have hcnt:(L.hs ++ [f]).length=cntTo (L.hs ++ [f]) zs.length:=by
   rw [cntTo_snoc hm hfn,if_pos hmn,List.length_append,h.cnt hst]; rfl
  have hsnd:∀ x,x∈L.hs ++ [f]→0≤x.f∧x.f<zs.length:=by
   intro x hx
   rcases List.mem_append.1 hx with g|g
   ·exact h.snd x g
   ·rw [List.mem_singleton.1 g]; exact ⟨r1,r2⟩
  have hpn:=h.pw.note (f:=f) hn r1 r2
  have hph:phear zs id deal att P f=takenP zs P f:=by unfold phear; rw [if_pos ht]
  rw [hph]
  rcases waits_ways hw with ⟨hk,hs,ha⟩|⟨hk,hs,ha⟩|⟨hk,hs⟩
  ·have hsl:seenL L f=L.seen:=by unfold seenL; rw [if_neg (fun x=>x.1 hk)]
   have htold:=h.told hs
   rw [if_pos ha] at htold
   cases hy:f.y with
   | false =>
    rw [lhear_no2 hq hy hk]
    have e:takenP zs P f=decP (noteP P f) 3:=by unfold takenP; rw [if_pos hk]; unfold voteP; rw [if_pos hy]
    rw [e,hsl]
    exact ⟨rfl,hpn.dec 3,rfl,by show 2<4; decide,rfl,h.snd,fun g=>absurd g (by show ¬ 2≤1; decide),fun g=>absurd g (by show ¬ 2≤1; decide),fun g=>absurd g (by show ¬ 2=0; decide),fun g=>absurd g (by show ¬ 2=1; decide),h.seen,h.has,h.pos⟩
   | true =>
    have hy':¬ f.y=false:=by rw [hy]; decide
    by_cases hall:(L.hs ++ [f]).length=zs.length
    ·rw [lhear_all hq hy' hk hall]
     have e2:(noteP P f).ans=2 ^ zs.length - 1:=by rw [hans]; exact (all_iff _ _).1 (hcnt.symm.trans hall)
     have e:takenP zs P f=preP (noteP P f) 4:=by unfold takenP; rw [if_pos hk]; unfold voteP; rw [if_neg hy',if_pos e2]
     rw [e,hsl]
     refine ⟨rfl,hpn.pre 4,rfl,by show 1<4; decide,rfl,fun x hx=>(by cases hx),fun _=>?_,fun _=>?_,fun g=>absurd g (by show ¬ 1=0; decide),fun _=>rfl,h.seen,h.has,h.pos⟩
     ·show 0=cntTo [] zs.length
      exact (cntTo_nil _).symm
     ·show (0:Int)=setTo [] zs.length
      exact (setTo_nil _).symm
    ·rw [lhear_some hq hy' hk hall]
     have e2:¬ (noteP P f).ans=2 ^ zs.length - 1:=by rw [hans]; exact fun g=>hall (hcnt.trans ((all_iff _ _).2 g))
     have e:takenP zs P f=(noteP P f,none):=by unfold takenP; rw [if_pos hk]; unfold voteP; rw [if_neg hy',if_neg e2]
     rw [e,hsl]
     exact ⟨rfl,hpn,h.stt,h.st4,h.wait,hsnd,fun _=>hcnt,fun _=>hans,fun _=>by rw [if_pos ha]; exact htold,fun g=>absurd (hs.symm.trans g) (by decide),h.seen,h.has,h.pos⟩
  ·have k2:¬ f.k=2:=by omega
   have hpr:=hp k2
   have hsl:seenL L f=(if P.seen<f.pr then f.pr else P.seen):=by
    unfold seenL
    rw [h.seen]
    by_cases g:L.seen<f.pr
    ·rw [if_pos ⟨k2,g⟩,if_pos g]
    ·rw [if_neg (fun x=>g x.2),if_neg g]
   obtain ⟨s1,s2,s3⟩:=see_seen (P:=noteP P f) h.has h.pos hpr
   obtain ⟨u1,u2,u3,u4⟩:=seeP_of (noteP P f) f.pr
   have hQw:=hpn.see f.pr
   have hseen:(seeP (noteP P f) f.pr).seen=seenL L f:=by rw [hsl]; exact s1
   have htold:=h.told hs
   rw [if_neg (show ¬ att=0 by omega)] at htold
   generalize hQe:seeP (noteP P f) f.pr=Q at *
   have hQa:Q.ans=setTo (L.hs ++ [f]) zs.length:=u2.trans hans
   have hQs:Q.stt=0:=u1.trans hs
   cases hy:f.y with
   | false =>
    rw [lhear_no hq hy k2]
    have e:takenP zs P f=({ Q with stt:=3 },none):=by unfold takenP; rw [if_neg k2,if_pos hy,hQe]
    rw [e]
    exact ⟨rfl,⟨hQw.len,hQw.lo,hQw.hi⟩,rfl,by show 3<4; decide,rfl,h.snd,fun g=>absurd g (by show ¬ 3≤1; decide),fun g=>absurd g (by show ¬ 3≤1; decide),fun g=>absurd g (by show ¬ 3=0; decide),fun g=>absurd g (by show ¬ 3=1; decide),hseen,s2,s3⟩
   | true =>
    have hy':¬ f.y=false:=by rw [hy]; decide
    have e:takenP zs P f=tellP zs Q m ⟨f.ph,f.pr,f.pa⟩:=by unfold takenP; rw [if_neg k2,if_neg hy',if_pos hk,hQe,htn]
    rw [e]
    have hTold:toldS Q.told m ⟨f.ph,f.pr,f.pa⟩=(List.range 7).map (tl (L.hs ++ [f])):=by
     rw [u3,show (noteP P f).told=P.told from rfl,htold]
     exact told_new hm hfn (by omega)
    have hCh:chooseL (toldS Q.told m ⟨f.ph,f.pr,f.pa⟩)=refL (toldTo (L.hs ++ [f]) zs.length):=by rw [hTold]; exact choose_told hn hsnd
    unfold tellP
    by_cases hen:enoughB zs (setTo (L.hs ++ [f]) zs.length)=false
    ·rw [if_pos (show enoughB zs Q.ans=false by rw [hQa]; exact hen),lhear_few hq hy' k2 hen]
     refine ⟨rfl,hQw.tell m _,u1.trans h.stt,by show Q.stt<4; omega,?_,hsnd,fun _=>hcnt,fun _=>hQa,fun _=>?_,fun g=>absurd (hQs.symm.trans g) (by decide),hseen,s2,s3⟩
     ·show L.wait=if Q.stt=0 then _ else _
      rw [hQs,h.wait,hs]
     ·show toldS Q.told m ⟨f.ph,f.pr,f.pa⟩=_
      rw [if_neg (show ¬ att=0 by omega)]; exact hTold
    ·rw [if_neg (show ¬ enoughB zs Q.ans=false by rw [hQa]; exact hen),hCh]
     cases hc:refL (toldTo (L.hs ++ [f]) zs.length) with
     | mk cp cf =>
      cases cf with
      | true =>
       rw [if_pos rfl,lhear_fin hq hy' k2 hen (by omega) hc]
       exact ⟨rfl,(hQw.tell m _).dec cp,rfl,by show 2<4; decide,rfl,hsnd,fun g=>absurd g (by show ¬ 2≤1; decide),fun g=>absurd g (by show ¬ 2≤1; decide),fun g=>absurd g (by show ¬ 2=0; decide),fun g=>absurd g (by show ¬ 2=1; decide),hseen,s2,s3⟩
      | false =>
       rw [if_neg (by simp),lhear_pre hq hy' k2 hen (by omega) hc]
       refine ⟨rfl,(hQw.tell m _).pre cp,rfl,by show 1<4; decide,rfl,fun x hx=>(by cases hx),fun _=>?_,fun _=>?_,fun g=>absurd g (by show ¬ 1=0; decide),fun _=>rfl,hseen,s2,s3⟩
       ·show 0=cntTo [] zs.length
        exact (cntTo_nil _).symm
       ·show (0:Int)=setTo [] zs.length
        exact (setTo_nil _).symm
  ·have k2:¬ f.k=2:=by omega
   have k4:¬ f.k=4:=by omega
   have hpr:=hp k2
   have hsl:seenL L f=(if P.seen<f.pr then f.pr else P.seen):=by
    unfold seenL
    rw [h.seen]
    by_cases g:L.seen<f.pr
    ·rw [if_pos ⟨k2,g⟩,if_pos g]
    ·rw [if_neg (fun x=>g x.2),if_neg g]
   obtain ⟨s1,s2,s3⟩:=see_seen (P:=noteP P f) h.has h.pos hpr
   obtain ⟨u1,u2,u3,u4⟩:=seeP_of (noteP P f) f.pr
   have hQw:=hpn.see f.pr
   have hseen:(seeP (noteP P f) f.pr).seen=seenL L f:=by rw [hsl]; exact s1
   have hprep:=h.prep hs
   generalize hQe:seeP (noteP P f) f.pr=Q at *
   have hQa:Q.ans=setTo (L.hs ++ [f]) zs.length:=u2.trans hans
   have hQs:Q.stt=1:=u1.trans hs
   have hQp:Q.prep=L.ph:=u4.trans hprep
   cases hy:f.y with
   | false =>
    rw [lhear_no hq hy k2]
    have e:takenP zs P f=({ Q with stt:=3 },none):=by unfold takenP; rw [if_neg k2,if_pos hy,hQe]
    rw [e]
    exact ⟨rfl,⟨hQw.len,hQw.lo,hQw.hi⟩,rfl,by show 3<4; decide,rfl,h.snd,fun g=>absurd g (by show ¬ 3≤1; decide),fun g=>absurd g (by show ¬ 3≤1; decide),fun g=>absurd g (by show ¬ 3=0; decide),fun g=>absurd g (by show ¬ 3=1; decide),hseen,s2,s3⟩
   | true =>
    have hy':¬ f.y=false:=by rw [hy]; decide
    have e:takenP zs P f=ackP zs Q:=by unfold takenP; rw [if_neg k2,if_neg hy',if_neg k4,hQe]
    rw [e]
    unfold ackP
    by_cases hen:enoughB zs (setTo (L.hs ++ [f]) zs.length)=false
    ·rw [if_pos (show enoughB zs Q.ans=false by rw [hQa]; exact hen),lhear_few hq hy' k2 hen]
     refine ⟨rfl,hQw,u1.trans h.stt,by show Q.stt<4; omega,?_,hsnd,fun _=>hcnt,fun _=>hQa,fun g=>absurd (hQs.symm.trans g) (by decide),fun _=>hQp,hseen,s2,s3⟩
     show L.wait=if Q.stt=0 then _ else _
     rw [hQs,h.wait,hs]
    ·rw [if_neg (show ¬ enoughB zs Q.ans=false by rw [hQa]; exact hen),lhear_ack hq hy' k2 hen hk]
     exact ⟨by show some (7,afterI Q.prep)=_; rw [hQp],hQw.dec _,rfl,by show 2<4; decide,rfl,hsnd,fun g=>absurd g (by show ¬ 2≤1; decide),fun g=>absurd g (by show ¬ 2≤1; decide),fun g=>absurd g (by show ¬ 2=0; decide),fun g=>absurd g (by show ¬ 2=1; decide),hseen,s2,s3⟩
 ·have hq:¬ (forL zs.length id deal att L f∧(fromL L.hs f.f).isSome=false):=fun g=>ht ((h.takes h0).2 g)
  rw [lhear_pass hq]
  have hph:phear zs id deal att P f=(P,none):=by unfold phear; rw [if_neg ht]
  rw [hph]
  exact ⟨rfl,h⟩
end
theorem rferr_ok (f t d k a:Int) (y:Bool) (ph pr pa:Int) (w:World) (h:frOk f t d k a ph pr pa) :
  Calls Tryz.prog 181 #[frV f t d k a y ph pr pa] w fun e w'=>e=.returned (.int .i64 0)∧Below w.heap.size w w':=by
 obtain ⟨W,HW⟩:∃ W,Hid (w.alloc (.cells #[.int .i64 f,.int .i64 t,.int .i64 d,.int .i64 k,.int .i64 a,.bool y,.int .i64 ph,.int .i64 pr,.int .i64 pa] 104)=W):=⟨_,rfl⟩
 have HB:Hid (Below w.heap.size w W):=by rw [← HW.out]; exact (Below.refl _ _).alloc (Nat.le_refl _) _
 have HR:Hid (W.heap[w.heap.size]? = some (.cells #[.int .i64 f,.int .i64 t,.int .i64 d,.int .i64 k,.int .i64 a,.bool y,.int .i64 ph,.int .i64 pr,.int .i64 pa] 104 (0,0))):=by rw [← HW.out]; exact heap_alloc_new w _
 obtain ⟨c0,c1,c2,c3,c4,c5,c6,c7,c8⟩:=nine HR.out
 have hW:=HW.out
 obtain ⟨⟨k0,k1⟩,⟨k2,k3⟩,⟨k4,k5⟩,⟨k6,k7⟩,⟨k8,k9⟩,⟨k10,k11⟩,⟨k12,k13⟩,⟨k14,k15⟩⟩:=h
 go_enter Tryz.func181,Tryz.ntmps181
 go_wp2_with fail
 go_ret
 exact ⟨rfl,HB.out⟩
theorem fr_neq (f t d k a:Int) (y:Bool) (ph pr pa:Int) (w:World):(binOp .neq 104 (frV f t d k a y ph pr pa) (frV f t d k a y ph pr pa)).run Tryz.prog w=.ok (.bool false) w:=by
 go_simp
theorem Tryz.infoBo:(Tryz.prog.info? 4).map (fun i=>(i.zero,i.size,i.bytes))=some (some (.bool false),1,1):=by kernel_rfl
theorem made_bo:madeCells (Value.bool false).cells 6=#[.bool false,.bool false,.bool false,.bool false,.bool false,.bool false]:=by first|rfl|kernel_rfl
theorem mkBo (w:World):(Instr.makeSlice 67 (.int .i64 6) (.int .i64 6)).run Tryz.prog w=.ok (.slice (some ⟨w.heap.size,0,none⟩) 6 6) (w.alloc (.cells #[.bool false,.bool false,.bool false,.bool false,.bool false,.bool false] 4)):=by
 obtain ⟨i0,hi,hz0,hz1,hz2⟩:=info_parts Tryz.infoBo
 have hr:=run_make (P:=Tryz.prog) w 67 4 i0 _ Tryz.underlying67 hi hz0 .i64 .i64 6 6 (by omega) (Int.le_refl _) (by rw [hz2]; decide) (by decide)
 rw [hz1,show Int.toNat 6 * 1=6 from rfl,made_bo] at hr
 exact hr
def VR (w:World) (b:Nat) (V:Nat→Bool):Prop:=w.heap[b]? = some (.cells #[.bool (V 0),.bool (V 1),.bool (V 2),.bool (V 3),.bool (V 4),.bool (V 5)] 4 (0,0))
def updB (V:Nat→Bool) (d:Nat) (x:Bool):Nat→Bool:=fun e=>if e=d then x else V e
section
variable {w w':World} {b d:Nat} {V:Nat→Bool}
theorem VR.lt (h:VR w b V):b<w.heap.size:=row_ltJ h
theorem VR.later (h:VR w b V) (hb:Below w.heap.size w w'):VR w' b V:=(hb.block b (row_ltJ h)).trans h
theorem VR.at_ (h:VR w b V) (hd:d<6):w.cell? ⟨b,d,none⟩=some (.bool (V d)):=by
 rw [cell_of_row _ _ _ _ _ _ h]
 rcases six hd with rfl|rfl|rfl|rfl|rfl|rfl <;> rfl
theorem VR.fz (h:VR w b V) (i:Nat):w.frozen? ⟨b,i,none⟩=false:=frozen_of_row w b i _ _ h
theorem VR.set (h:VR w b V) (hd:d<6) (x:Bool):VR (w.setCell ⟨b,d,none⟩ (.bool x)) b (updB V d x):=by
 unfold VR
 rw [heap_setCell_same w b d _ _ (.bool x) h]
 rcases six hd with rfl|rfl|rfl|rfl|rfl|rfl <;> rfl
theorem VR.new (w:World):VR (w.alloc (.cells #[.bool false,.bool false,.bool false,.bool false,.bool false,.bool false] 4)) w.heap.size (fun _=>false):=heap_alloc_new w _
end
end Go.Proofs.YtadhpkopkkjmfaaGreatDoor
