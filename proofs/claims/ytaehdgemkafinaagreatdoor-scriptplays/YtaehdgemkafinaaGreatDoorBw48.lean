/-
  On the way to SPlaysProof: O36.
-/
import Derived.Test.YtaehdgemkafinaaGreatDoorBw47
import Derived.Test.YtaehdgemkafinaaGreatDoorBw35
set_option maxHeartbeats 8000000
set_option maxRecDepth 100000
namespace Go.Proofs.YtaehdgemkafinaaGreatDoor
open Go.RowKit
def RaI (w0 w wr:World) (C:Nat→Nat) (Y:YB) (aw:Option Addr) (cap:Nat) (zs:List Int) (V:PX) (m j:Nat):Prop :=
 ∃ C1 Y1 U,RW w0 wr C1 Y1 aw cap zs U (m+3 * j)∧rkey Y1=rkey Y∧Kept (OwnX C) w wr∧(∀ x,x<w.heap.size→C1 x=C x)∧delX zs (3000 - j) U=delX zs 3000 V∧delN zs (3000 - j) U+j=delN zs 3000 V
theorem stP_B {n:Nat} (h:n<4):stP n=stB n:=by
 have:n=0 ∨ n=1 ∨ n=2 ∨ n=3:=by omega
 rcases this with rfl|rfl|rfl|rfl <;> rfl
theorem set2_keep {w:World} {b c j:Nat} {u x y:Value} (h:w.cell? ⟨b,j,none⟩=some u) (hne:b≠c):((w.setCell ⟨c,0,none⟩ x).setCell ⟨c,1,none⟩ y).cell? ⟨b,j,none⟩=some u:=by
 rw [World.cell?_setCell_far _ _ _ _ (fun e=>hne e.symm),World.cell?_setCell_far _ _ _ _ (fun e=>hne e.symm)]
 exact h
theorem set3_keep {w:World} {b c j:Nat} {u x y z:Value} (h:w.cell? ⟨b,j,none⟩=some u) (hne:b≠c):(((w.setCell ⟨c,0,none⟩ x).setCell ⟨c,1,none⟩ y).setCell ⟨c,2,none⟩ z).cell? ⟨b,j,none⟩=some u:=by
 rw [World.cell?_setCell_far _ _ _ _ (fun e=>hne e.symm)]
 exact set2_keep h hne
theorem row3_setL {w:World} {b:Nat} {x y z:Value} {t:TypeId} (h:w.heap[b]? = some (.cells #[x,y,z] t (0,0))) (u v r:Value):(((w.setCell ⟨b,0,none⟩ u).setCell ⟨b,1,none⟩ v).setCell ⟨b,2,none⟩ r).heap[b]? = some (.cells #[u,v,r] t (0,0)):=by
 have e1:=heap_setCell_same w b 0 _ _ u h
 have e2:=heap_setCell_same _ b 1 _ _ v e1
 rw [heap_setCell_same _ b 2 _ _ r e2]
 rfl
section
variable {w0 w:World} {wd:ByteArray} {v:Value} {C:Nat→Nat} {Y:YB} {aw:Option Addr} {cap m g o cap1:Nat} {zs:List Int} {V:PX}
theorem an13_any (h:IsNm wd 13) (hR:RW w0 w C Y aw cap zs V m) (hm:m+9000<1000000) :
  Calls Tryz.prog 16 #[.pointer (some ⟨Y.xb,0,none⟩),.agg #[.string wd,v]] w fun e w'=>e=.returned (.string (bB (Lib.decDigits (delN zs 3000 V))))∧ROut w0 w w' C Y aw cap zs (delX zs 3000 V) (m+9000):=by
 have k0:(wd.toList == [115,105,116,101,115])=false:=h 0 (by decide)
 have k1:(wd.toList == [98,101,103,105,110])=false:=h 1 (by decide)
 have k2:(wd.toList == [114,101,102,117,115,101])=false:=h 2 (by decide)
 have k3:(wd.toList == [116,105,99,107])=false:=h 3 (by decide)
 have k4:(wd.toList == [103,111])=false:=h 4 (by decide)
 have k5:(wd.toList == [108,111,115,101])=false:=h 5 (by decide)
 have k6:(wd.toList == [116,119,105,99,101])=false:=h 6 (by decide)
 have k7:(wd.toList == [108,105,110,107])=false:=h 7 (by decide)
 have k8:(wd.toList == [98,114,101,97,107])=false:=h 8 (by decide)
 have k9:(wd.toList == [99,117,116])=false:=h 9 (by decide)
 have k10:(wd.toList == [100,111,119,110])=false:=h 10 (by decide)
 have k11:(wd.toList == [117,112])=false:=h 11 (by decide)
 have k12:(wd.toList == [99,104,101,99,107])=false:=h 12 (by decide)
 have k13:(wd.toList == [97,108,108])=true:=h 13 (by decide)
 have k14:(wd.toList == [102,108,121])=false:=h 14 (by decide)
 have k15:(wd.toList == [115,116,97,116,101])=false:=h 15 (by decide)
 have k16:(wd.toList == [108,101,97,100])=false:=h 16 (by decide)
 have k17:(wd.toList == [105,115])=false:=h 17 (by decide)
 have k18:(wd.toList == [101,118,101,110,116,115])=false:=h 18 (by decide)
 have hbx:=bxL_new w wd v
 have hbW:Below w.heap.size w (bxW w wd v):=(Below.refl _ _).alloc (Nat.le_refl _) _
 have hRW:=hR.later hbW
 obtain ⟨W,HW⟩:∃ W,Hid (bxW w wd v=W):=⟨_,rfl⟩
 have hW:w.alloc (.cells #[.string wd,v] 36)=W:=HW.out
 rw [show w.alloc (.cells #[.string wd,v] 36)=bxW w wd v from rfl,HW.out] at hbx
 rw [HW.out] at hRW hbW
 obtain ⟨d0,d1⟩:=hbx
 have HRW:=hid hRW
 have HBW:=hid hbW
 have HI0:Hid (RaI w0 w W C Y aw cap zs V m 0):=⟨C,Y,V,hRW,rfl,Kept.of_below hbW,fun _ _=>rfl,rfl,rfl⟩
 clear hR h hbW hRW
 go_enter Tryz.func16,Tryz.ntmps16
 go_wp2_with fail
 go_loopw [5] (fun u wr=>∃ j:Nat,j≤3000∧u=.int .i64 (j:Int)∧Hid (RaI w0 w wr C Y aw cap zs V m j)) (fun u _=>3000 - (intOf u).toNat)
 case atStart=>exact ⟨0,Nat.zero_le _,rfl,HI0.out⟩
 case round =>
  obtain ⟨j,hj,rfl,HI⟩:=hrel
  obtain ⟨C1,Y1,U,g1,g2,g3,g4,g5,gn⟩:=HI.out
  by_cases hlt:j<3000
  ·have hlt2:(j:Int)<3000:=by omega
   obtain ⟨q,hq⟩:∃ q,3000 - j=q+1:=⟨3000 - j - 1,by omega⟩
   rw [hq] at g5 gn
   cases hfl:U.fly with
   | nil =>
    have HD:=hid (rdeliver_no (0:Int) g1 (by rw [hfl]; simp) (by omega))
    rw [rkey_xb g2] at HD
    rw [delN_nil hfl,Nat.zero_add] at gn
    rw [del_nil hfl] at g5
    have HO:Hid (delN zs 3000 V=j∧ROut w0 w wr C Y aw cap zs (delX zs 3000 V) (m+9000)):=by
     rw [← g5,← gn]; exact ⟨rfl,C1,Y1,g1.mono (by omega),g2,g3,g4⟩
    clear g1 g2 g3 g4 g5 gn hfl
    go_wp2_with fail
    refine HD.out.mono ?_
    rintro e w1 ⟨rfl,hb1⟩
    have HO1:=hid (HO.out.2.later hb1)
    have HDc:=hid (dec_any j w1 (by omega))
    clear hb1
    go_wp2_with fail
    refine HDc.out.mono ?_
    rintro e w2 ⟨rfl,hb2⟩
    have HO2:=hid (HO1.out.later hb2)
    clear hb2
    go_wp2_with fail
    go_ret
    exact ⟨by rw [HO.out.1]; rfl,HO2.out⟩
   | cons f rest =>
    have h0l:0<U.fly.length:=by rw [hfl]; simp
    have hf0:U.fly[0]'h0l=f:=by simp [hfl]
    have HD:=hid (rdeliver_ok 0 f g1 h0l hf0 (by omega))
    rw [rkey_xb g2,show ((0:Nat):Int)=0 from rfl] at HD
    rw [delN_cons hfl] at gn
    have hdx:delX zs (q+1) U=delX zs q (deliverX zs U 0 f):=by
     show (match U.fly with|[]=>U|f :: _=>delX zs q (deliverX zs U 0 f))=_
     rw [hfl]
    rw [hdx] at g5
    have HN:Hid (∀ w1,ROut w0 wr w1 C1 Y1 aw cap zs (deliverX zs U 0 f) (m+3 * j+3)→RaI w0 w w1 C Y aw cap zs V m (j+1)):=by
     intro w1 ho
     obtain ⟨C2,Y2,y1,y2,y3,y4⟩:=ROut.step g2 g3 g4 ho
     exact ⟨C2,Y2,_,by rw [show m+3 * (j+1)=m+3 * j+3 by omega]; exact y1,y2,y3,y4,by rw [show 3000 - (j+1)=q by omega]; exact g5,by rw [show 3000 - (j+1)=q by omega]; omega⟩
    clear g1 g2 g3 g4 g5 gn hfl hf0 h0l hdx hq
    go_wp2_with fail
    refine HD.out.mono ?_
    rintro e w1 ⟨rfl,ho⟩
    have HO:=hid (HN.out w1 ho)
    clear ho
    go_wp2_with fail
    go_roundw
    case rel=>exact ⟨j+1,by omega,by go_num,HO.out⟩
    case measure=>simp [intOf]; omega
  ·obtain rfl:j=3000:=by omega
   have HO:Hid (delN zs 3000 V=3000∧ROut w0 w wr C Y aw cap zs (delX zs 3000 V) (m+9000)):=by
    have g5':U=delX zs 3000 V:=g5
    have gn':0+3000=delN zs 3000 V:=gn
    rw [← g5',← gn']; exact ⟨rfl,C1,Y1,g1,g2,g3,g4⟩
   have HDc:=hid (dec_any 3000 wr (by omega))
   clear g1 g2 g3 g4 g5 gn
   go_wp2_with fail
   refine HDc.out.mono ?_
   rintro e w2 ⟨rfl,hb2⟩
   have HO2:=hid (HO.out.2.later hb2)
   clear hb2
   go_wp2_with fail
   go_ret
   exact ⟨by rw [HO.out.1]; rfl,HO2.out⟩
theorem an14_any (h:IsNm wd 14) (hR:RW w0 w C Y aw cap zs V m) (hm:m≤100000000) :
  Calls Tryz.prog 16 #[.pointer (some ⟨Y.xb,0,none⟩),.agg #[.string wd,v]] w fun e w'=>e=.returned (.string (bB (Lib.decDigits V.fly.length)))∧Below w.heap.size w w':=by
 have k0:(wd.toList == [115,105,116,101,115])=false:=h 0 (by decide)
 have k1:(wd.toList == [98,101,103,105,110])=false:=h 1 (by decide)
 have k2:(wd.toList == [114,101,102,117,115,101])=false:=h 2 (by decide)
 have k3:(wd.toList == [116,105,99,107])=false:=h 3 (by decide)
 have k4:(wd.toList == [103,111])=false:=h 4 (by decide)
 have k5:(wd.toList == [108,111,115,101])=false:=h 5 (by decide)
 have k6:(wd.toList == [116,119,105,99,101])=false:=h 6 (by decide)
 have k7:(wd.toList == [108,105,110,107])=false:=h 7 (by decide)
 have k8:(wd.toList == [98,114,101,97,107])=false:=h 8 (by decide)
 have k9:(wd.toList == [99,117,116])=false:=h 9 (by decide)
 have k10:(wd.toList == [100,111,119,110])=false:=h 10 (by decide)
 have k11:(wd.toList == [117,112])=false:=h 11 (by decide)
 have k12:(wd.toList == [99,104,101,99,107])=false:=h 12 (by decide)
 have k13:(wd.toList == [97,108,108])=false:=h 13 (by decide)
 have k14:(wd.toList == [102,108,121])=true:=h 14 (by decide)
 have k15:(wd.toList == [115,116,97,116,101])=false:=h 15 (by decide)
 have k16:(wd.toList == [108,101,97,100])=false:=h 16 (by decide)
 have k17:(wd.toList == [105,115])=false:=h 17 (by decide)
 have k18:(wd.toList == [101,118,101,110,116,115])=false:=h 18 (by decide)
 have hbx:=bxL_new w wd v
 have hbW:Below w.heap.size w (bxW w wd v):=(Below.refl _ _).alloc (Nat.le_refl _) _
 have hRW:=hR.later hbW
 obtain ⟨W,HW⟩:∃ W,Hid (bxW w wd v=W):=⟨_,rfl⟩
 have hW:w.alloc (.cells #[.string wd,v] 36)=W:=HW.out
 rw [show w.alloc (.cells #[.string wd,v] 36)=bxW w wd v from rfl,HW.out] at hbx
 rw [HW.out] at hRW hbW
 obtain ⟨d0,d1⟩:=hbx
 have HRW:=hid hRW
 have HBW:=hid hbW
 obtain ⟨-,-,-,c3,-⟩:=hRW.cells
 obtain ⟨af,cf,hv⟩:=hRW.flyForm
 have hfl:=hRW.inv.fl
 obtain ⟨lf,Hlf⟩:∃ lf,Hid (V.fly.length=lf):=⟨_,rfl⟩
 rw [Hlf.out] at hv hfl ⊢
 rw [hv] at c3
 have HD:=hid (dec_any lf W (by omega))
 clear hR h hbW hRW hv
 go_enter Tryz.func16,Tryz.ntmps16
 go_wp2_with fail
 refine HD.out.mono ?_
 rintro e w2 ⟨rfl,hb2⟩
 have HB2:=hid (below_trans HBW.out hb2)
 clear hb2
 go_wp2_with fail
 go_ret
 exact ⟨rfl,HB2.out⟩
theorem an12_any (h:IsNm wd 12) (hR:RW w0 w C Y aw cap zs V m) (hA:AX zs V) :
  Calls Tryz.prog 16 #[.pointer (some ⟨Y.xb,0,none⟩),.agg #[.string wd,v]] w fun e w'=>e=.returned (.string (bB [111,107]))∧Below w.heap.size w w':=by
 have k0:(wd.toList == [115,105,116,101,115])=false:=h 0 (by decide)
 have k1:(wd.toList == [98,101,103,105,110])=false:=h 1 (by decide)
 have k2:(wd.toList == [114,101,102,117,115,101])=false:=h 2 (by decide)
 have k3:(wd.toList == [116,105,99,107])=false:=h 3 (by decide)
 have k4:(wd.toList == [103,111])=false:=h 4 (by decide)
 have k5:(wd.toList == [108,111,115,101])=false:=h 5 (by decide)
 have k6:(wd.toList == [116,119,105,99,101])=false:=h 6 (by decide)
 have k7:(wd.toList == [108,105,110,107])=false:=h 7 (by decide)
 have k8:(wd.toList == [98,114,101,97,107])=false:=h 8 (by decide)
 have k9:(wd.toList == [99,117,116])=false:=h 9 (by decide)
 have k10:(wd.toList == [100,111,119,110])=false:=h 10 (by decide)
 have k11:(wd.toList == [117,112])=false:=h 11 (by decide)
 have k12:(wd.toList == [99,104,101,99,107])=true:=h 12 (by decide)
 have k13:(wd.toList == [97,108,108])=false:=h 13 (by decide)
 have k14:(wd.toList == [102,108,121])=false:=h 14 (by decide)
 have k15:(wd.toList == [115,116,97,116,101])=false:=h 15 (by decide)
 have k16:(wd.toList == [108,101,97,100])=false:=h 16 (by decide)
 have k17:(wd.toList == [105,115])=false:=h 17 (by decide)
 have k18:(wd.toList == [101,118,101,110,116,115])=false:=h 18 (by decide)
 have hbx:=bxL_new w wd v
 have hbW:Below w.heap.size w (bxW w wd v):=(Below.refl _ _).alloc (Nat.le_refl _) _
 have hRW:=hR.later hbW
 obtain ⟨W,HW⟩:∃ W,Hid (bxW w wd v=W):=⟨_,rfl⟩
 have hW:w.alloc (.cells #[.string wd,v] 36)=W:=HW.out
 rw [show w.alloc (.cells #[.string wd,v] 36)=bxW w wd v from rfl,HW.out] at hbx
 rw [HW.out] at hRW hbW
 obtain ⟨d0,d1⟩:=hbx
 have HRW:=hid hRW
 have HBW:=hid hbW
 obtain ⟨-,c1,-,-,c4⟩:=hRW.cells
 obtain ⟨ae,ce,hv,-,-,hel⟩:=own_el hRW.evs
 have hev:=hRW.inv.ev
 have hn7:=hRW.n7
 have HF:Hid (∀ U,Below W.heap.size W U→Calls Tryz.prog 32 #[.slice ae V.evs.length ce,.int .i64 (zs.length:Int)] U fun e w'=>e=.returned (fltV 0 (-1))∧Below U.heap.size U w'):=fun U hb=>revf_ok ae ce V.evs zs.length 0 V.evs.length 0 (-1) U (by omega) (by omega) (hel.later hb) (by omega) (ax_events hA) rfl rfl
 obtain ⟨le,Hle⟩:∃ le,Hid (V.evs.length=le):=⟨_,rfl⟩
 obtain ⟨n,Hn⟩:∃ n,Hid (zs.length=n):=⟨_,rfl⟩
 rw [Hle.out] at hv HF
 rw [Hn.out] at c1 HF
 rw [hv] at c4
 unfold fltV at HF
 obtain ⟨W1,HW1⟩:∃ W1,Hid (W.alloc (.cells #[.int .i64 0,.int .i64 0] 74)=W1):=⟨_,rfl⟩
 have hW1:=HW1.out
 have HB1:Hid (Below W.heap.size W W1):=by rw [← HW1.out]; exact (Below.refl _ _).alloc (Nat.le_refl _) _
 have HR1:Hid (W1.heap[W.heap.size]? = some (.cells #[.int .i64 0,.int .i64 0] 74 (0,0))):=by rw [← HW1.out]; exact heap_alloc_new W _
 have c4':=cell_later HB1.out c4
 have c1':=cell_later HB1.out c1
 have HF2:=hid (HF.out W1.drew HB1.out.drew)
 have hne:Y.xb≠W.heap.size:=fun e=>by have h1:Y.xb<W.heap.size:=cell_lt c4; omega
 have HF3:=hid (HF.out W.drew (Below.refl _ _).drew)
 clear hR h hbW hRW hv hel hA hev hn7
 go_enter Tryz.func16,Tryz.ntmps16
 go_wp2_with fail
 go_region_held3 (fun U=>U.cell? ⟨Y.xb,4,none⟩=some (.slice ae le ce)∧U.cell? ⟨Y.xb,1,none⟩=some (.slice (some ⟨Y.nb,0,none⟩) n Y.nc)) (first|exact hk2|exact ⟨set2_keep hk2.1 hne,set2_keep hk2.2 hne⟩|go_keep) (first
  | (go_at_call 32; (with_reducible refine HF2.out.mono ?_); rintro e w2 ⟨rfl,hb2⟩; have HB2:=hid hb2; have hk2:=And.intro (cell_later hb2 c4') (cell_later hb2 c1'); have hr2:=(hb2.block _ (row_ltJ HR1.out)).trans HR1.out; have f0:=cell_of_row _ _ 0 _ _ _ hr2; have f1:=cell_of_row _ _ 1 _ _ _ hr2; have q0:=frozen_of_row _ _ 0 _ _ hr2; have q1:=frozen_of_row _ _ 1 _ _ hr2; have HR2:=hid hr2; clear hb2 hr2)
  | (go_at_call 32; (with_reducible refine HF3.out.mono ?_); rintro e w2 ⟨rfl,hb2⟩; have HB2:=hid hb2; have hk2:=And.intro (cell_later hb2 c4) (cell_later hb2 c1); clear hb2))
 ·obtain ⟨W3,HW3⟩:∃ W3,Hid (w2.alloc (.cells #[.int .i64 0,.int .i64 (-1)] 74)=W3):=⟨_,rfl⟩
  have hr3:W3.heap[w2.heap.size]? = some (.cells #[.int .i64 0,.int .i64 (-1)] 74 (0,0)):=by rw [← HW3.out]; exact heap_alloc_new w2 _
  have HB3:Hid (Below w2.heap.size w2 W3):=by rw [← HW3.out]; exact (Below.refl _ _).alloc (Nat.le_refl _) _
  have g0:W3.cell? ⟨w2.heap.size,0,none⟩=some (.int .i64 0):=by rw [cell_of_row _ _ _ _ _ _ hr3]; rfl
  have HOr:=hid (orOk_any 0 (by decide) W3)
  rw [HW3.out]
  clear hr3
  go_wp2_with fail
  refine HOr.out.mono ?_
  rintro e w4 ⟨rfl,hb4⟩
  have HB4:=hid (below_trans HBW.out (below_trans (show Below W.heap.size W w2 from ((Below.refl _ W).drew).trans HB2.out) (below_trans HB3.out hb4)))
  clear hb4
  go_wp2_with fail
  go_ret
  exact ⟨rfl,HB4.out⟩
 ·obtain ⟨W3,HW3⟩:∃ W3,Hid ((w2.setCell ⟨W.heap.size,0,none⟩ (.int .i64 0)).setCell ⟨W.heap.size,1,none⟩ (.int .i64 (-1))=W3):=⟨_,rfl⟩
  have hr3:W3.heap[W.heap.size]? = some (.cells #[.int .i64 0,.int .i64 (-1)] 74 (0,0)):=by rw [← HW3.out]; exact row2_set HR2.out _ _
  have HB3:Hid (Below W.heap.size W W3):=by
   rw [← HW3.out]
   exact Below.setCell (Below.setCell (HB1.out.trans ((show Below W1.heap.size W1 w2 from ((Below.refl _ W1).drew).trans HB2.out).mono HB1.out.size)) (Nat.le_refl _) _) (Nat.le_refl _) _
  have g0:W3.cell? ⟨W.heap.size,0,none⟩=some (.int .i64 0):=by rw [cell_of_row _ _ _ _ _ _ hr3]; rfl
  have HOr:=hid (orOk_any 0 (by decide) W3)
  rw [HW3.out]
  clear hr3
  go_wp2_with fail
  refine HOr.out.mono ?_
  rintro e w4 ⟨rfl,hb4⟩
  have HB4:=hid (below_trans HBW.out (below_trans HB3.out hb4))
  clear hb4
  go_wp2_with fail
  go_ret
  exact ⟨rfl,HB4.out⟩
theorem an17_no {a:Int} (h:IsNm wd 17) (hR:RW w0 w C Y aw cap zs V m) (h0:w.cell? ⟨g,o,none⟩=some (.int .i64 a)) (ha:¬ a<zs.length) :
  Calls Tryz.prog 16 #[.pointer (some ⟨Y.xb,0,none⟩),.agg #[.string wd,.slice (some ⟨g,o,none⟩) 1 cap1]] w fun e w'=>e=.returned (.string (bB (errO 2)))∧Below w.heap.size w w':=by
 have k0:(wd.toList == [115,105,116,101,115])=false:=h 0 (by decide)
 have k1:(wd.toList == [98,101,103,105,110])=false:=h 1 (by decide)
 have k2:(wd.toList == [114,101,102,117,115,101])=false:=h 2 (by decide)
 have k3:(wd.toList == [116,105,99,107])=false:=h 3 (by decide)
 have k4:(wd.toList == [103,111])=false:=h 4 (by decide)
 have k5:(wd.toList == [108,111,115,101])=false:=h 5 (by decide)
 have k6:(wd.toList == [116,119,105,99,101])=false:=h 6 (by decide)
 have k7:(wd.toList == [108,105,110,107])=false:=h 7 (by decide)
 have k8:(wd.toList == [98,114,101,97,107])=false:=h 8 (by decide)
 have k9:(wd.toList == [99,117,116])=false:=h 9 (by decide)
 have k10:(wd.toList == [100,111,119,110])=false:=h 10 (by decide)
 have k11:(wd.toList == [117,112])=false:=h 11 (by decide)
 have k12:(wd.toList == [99,104,101,99,107])=false:=h 12 (by decide)
 have k13:(wd.toList == [97,108,108])=false:=h 13 (by decide)
 have k14:(wd.toList == [102,108,121])=false:=h 14 (by decide)
 have k15:(wd.toList == [115,116,97,116,101])=false:=h 15 (by decide)
 have k16:(wd.toList == [108,101,97,100])=false:=h 16 (by decide)
 have k17:(wd.toList == [105,115])=true:=h 17 (by decide)
 have k18:(wd.toList == [101,118,101,110,116,115])=false:=h 18 (by decide)
 have hbx:=bxL_new w wd (.slice (some ⟨g,o,none⟩) 1 cap1)
 have hbW:Below w.heap.size w (bxW w wd (.slice (some ⟨g,o,none⟩) 1 cap1)):=(Below.refl _ _).alloc (Nat.le_refl _) _
 have hRW:=hR.later hbW
 have e0:=cell_later hbW h0
 obtain ⟨W,HW⟩:∃ W,Hid (bxW w wd (.slice (some ⟨g,o,none⟩) 1 cap1)=W):=⟨_,rfl⟩
 have hW:w.alloc (.cells #[.string wd,.slice (some ⟨g,o,none⟩) 1 cap1] 36)=W:=HW.out
 rw [show w.alloc (.cells #[.string wd,.slice (some ⟨g,o,none⟩) 1 cap1] 36)=bxW w wd (.slice (some ⟨g,o,none⟩) 1 cap1) from rfl,HW.out] at hbx
 rw [HW.out] at hRW hbW e0
 obtain ⟨d0,d1⟩:=hbx
 have HRW:=hid hRW
 have HBW:=hid hbW
 obtain ⟨-,c1,-,-,-⟩:=hRW.cells
 obtain ⟨n,Hn⟩:∃ n,Hid (zs.length=n):=⟨_,rfl⟩
 rw [Hn.out] at c1 ha
 have hge:(n:Int)≤a:=by omega
 have HE:Hid (∀ U,Calls Tryz.prog 10 #[.int .i64 2] U fun e w'=>e=.returned (.string (bB (errO 2)))∧Below U.heap.size U w'):=fun U=>eText_any 1 (by decide) U
 clear hR h h0 hbW hRW ha
 go_enter Tryz.func16,Tryz.ntmps16
 go_wp2_with fail
 go_quiet (fail)
 go_wp2_with fail
 refine (HE.out _).mono ?_
 rintro e w2 ⟨rfl,hb2⟩
 have HB2:=hid (below_trans HBW.out (below_trans (below_drewN (Below.refl _ _) _) hb2))
 clear hb2
 go_wp2_with fail
 go_ret
 exact ⟨rfl,HB2.out⟩
theorem an16_no {a:Int} (h:IsNm wd 16) (hR:RW w0 w C Y aw cap zs V m) (h0:w.cell? ⟨g,o,none⟩=some (.int .i64 a)) (ha:¬ a<zs.length) :
  Calls Tryz.prog 16 #[.pointer (some ⟨Y.xb,0,none⟩),.agg #[.string wd,.slice (some ⟨g,o,none⟩) 2 cap1]] w fun e w'=>e=.returned (.string (bB (errO 2)))∧Below w.heap.size w w':=by
 have k0:(wd.toList == [115,105,116,101,115])=false:=h 0 (by decide)
 have k1:(wd.toList == [98,101,103,105,110])=false:=h 1 (by decide)
 have k2:(wd.toList == [114,101,102,117,115,101])=false:=h 2 (by decide)
 have k3:(wd.toList == [116,105,99,107])=false:=h 3 (by decide)
 have k4:(wd.toList == [103,111])=false:=h 4 (by decide)
 have k5:(wd.toList == [108,111,115,101])=false:=h 5 (by decide)
 have k6:(wd.toList == [116,119,105,99,101])=false:=h 6 (by decide)
 have k7:(wd.toList == [108,105,110,107])=false:=h 7 (by decide)
 have k8:(wd.toList == [98,114,101,97,107])=false:=h 8 (by decide)
 have k9:(wd.toList == [99,117,116])=false:=h 9 (by decide)
 have k10:(wd.toList == [100,111,119,110])=false:=h 10 (by decide)
 have k11:(wd.toList == [117,112])=false:=h 11 (by decide)
 have k12:(wd.toList == [99,104,101,99,107])=false:=h 12 (by decide)
 have k13:(wd.toList == [97,108,108])=false:=h 13 (by decide)
 have k14:(wd.toList == [102,108,121])=false:=h 14 (by decide)
 have k15:(wd.toList == [115,116,97,116,101])=false:=h 15 (by decide)
 have k16:(wd.toList == [108,101,97,100])=true:=h 16 (by decide)
 have k17:(wd.toList == [105,115])=false:=h 17 (by decide)
 have k18:(wd.toList == [101,118,101,110,116,115])=false:=h 18 (by decide)
 have hbx:=bxL_new w wd (.slice (some ⟨g,o,none⟩) 2 cap1)
 have hbW:Below w.heap.size w (bxW w wd (.slice (some ⟨g,o,none⟩) 2 cap1)):=(Below.refl _ _).alloc (Nat.le_refl _) _
 have hRW:=hR.later hbW
 have e0:=cell_later hbW h0
 obtain ⟨W,HW⟩:∃ W,Hid (bxW w wd (.slice (some ⟨g,o,none⟩) 2 cap1)=W):=⟨_,rfl⟩
 have hW:w.alloc (.cells #[.string wd,.slice (some ⟨g,o,none⟩) 2 cap1] 36)=W:=HW.out
 rw [show w.alloc (.cells #[.string wd,.slice (some ⟨g,o,none⟩) 2 cap1] 36)=bxW w wd (.slice (some ⟨g,o,none⟩) 2 cap1) from rfl,HW.out] at hbx
 rw [HW.out] at hRW hbW e0
 obtain ⟨d0,d1⟩:=hbx
 have HRW:=hid hRW
 have HBW:=hid hbW
 obtain ⟨-,c1,-,-,-⟩:=hRW.cells
 obtain ⟨n,Hn⟩:∃ n,Hid (zs.length=n):=⟨_,rfl⟩
 rw [Hn.out] at c1 ha
 have hge:(n:Int)≤a:=by omega
 have HE:Hid (∀ U,Calls Tryz.prog 10 #[.int .i64 2] U fun e w'=>e=.returned (.string (bB (errO 2)))∧Below U.heap.size U w'):=fun U=>eText_any 1 (by decide) U
 clear hR h h0 hbW hRW ha
 go_enter Tryz.func16,Tryz.ntmps16
 go_wp2_with fail
 go_quiet (fail)
 go_wp2_with fail
 refine (HE.out _).mono ?_
 rintro e w2 ⟨rfl,hb2⟩
 have HB2:=hid (below_trans HBW.out (below_trans (below_drewN (Below.refl _ _) _) hb2))
 clear hb2
 go_wp2_with fail
 go_ret
 exact ⟨rfl,HB2.out⟩
theorem an15_no {a:Int} (h:IsNm wd 15) (hR:RW w0 w C Y aw cap zs V m) (h0:w.cell? ⟨g,o,none⟩=some (.int .i64 a)) (ha:¬ a<zs.length) :
  Calls Tryz.prog 16 #[.pointer (some ⟨Y.xb,0,none⟩),.agg #[.string wd,.slice (some ⟨g,o,none⟩) 2 cap1]] w fun e w'=>e=.returned (.string (bB (errO 2)))∧Below w.heap.size w w':=by
 have k0:(wd.toList == [115,105,116,101,115])=false:=h 0 (by decide)
 have k1:(wd.toList == [98,101,103,105,110])=false:=h 1 (by decide)
 have k2:(wd.toList == [114,101,102,117,115,101])=false:=h 2 (by decide)
 have k3:(wd.toList == [116,105,99,107])=false:=h 3 (by decide)
 have k4:(wd.toList == [103,111])=false:=h 4 (by decide)
 have k5:(wd.toList == [108,111,115,101])=false:=h 5 (by decide)
 have k6:(wd.toList == [116,119,105,99,101])=false:=h 6 (by decide)
 have k7:(wd.toList == [108,105,110,107])=false:=h 7 (by decide)
 have k8:(wd.toList == [98,114,101,97,107])=false:=h 8 (by decide)
 have k9:(wd.toList == [99,117,116])=false:=h 9 (by decide)
 have k10:(wd.toList == [100,111,119,110])=false:=h 10 (by decide)
 have k11:(wd.toList == [117,112])=false:=h 11 (by decide)
 have k12:(wd.toList == [99,104,101,99,107])=false:=h 12 (by decide)
 have k13:(wd.toList == [97,108,108])=false:=h 13 (by decide)
 have k14:(wd.toList == [102,108,121])=false:=h 14 (by decide)
 have k15:(wd.toList == [115,116,97,116,101])=true:=h 15 (by decide)
 have k16:(wd.toList == [108,101,97,100])=false:=h 16 (by decide)
 have k17:(wd.toList == [105,115])=false:=h 17 (by decide)
 have k18:(wd.toList == [101,118,101,110,116,115])=false:=h 18 (by decide)
 have hbx:=bxL_new w wd (.slice (some ⟨g,o,none⟩) 2 cap1)
 have hbW:Below w.heap.size w (bxW w wd (.slice (some ⟨g,o,none⟩) 2 cap1)):=(Below.refl _ _).alloc (Nat.le_refl _) _
 have hRW:=hR.later hbW
 have e0:=cell_later hbW h0
 obtain ⟨W,HW⟩:∃ W,Hid (bxW w wd (.slice (some ⟨g,o,none⟩) 2 cap1)=W):=⟨_,rfl⟩
 have hW:w.alloc (.cells #[.string wd,.slice (some ⟨g,o,none⟩) 2 cap1] 36)=W:=HW.out
 rw [show w.alloc (.cells #[.string wd,.slice (some ⟨g,o,none⟩) 2 cap1] 36)=bxW w wd (.slice (some ⟨g,o,none⟩) 2 cap1) from rfl,HW.out] at hbx
 rw [HW.out] at hRW hbW e0
 obtain ⟨d0,d1⟩:=hbx
 have HRW:=hid hRW
 have HBW:=hid hbW
 obtain ⟨-,c1,-,-,-⟩:=hRW.cells
 obtain ⟨n,Hn⟩:∃ n,Hid (zs.length=n):=⟨_,rfl⟩
 rw [Hn.out] at c1 ha
 have hge:(n:Int)≤a:=by omega
 have HE:Hid (∀ U,Calls Tryz.prog 10 #[.int .i64 2] U fun e w'=>e=.returned (.string (bB (errO 2)))∧Below U.heap.size U w'):=fun U=>eText_any 1 (by decide) U
 clear hR h h0 hbW hRW ha
 go_enter Tryz.func16,Tryz.ntmps16
 go_wp2_with fail
 go_quiet (fail)
 go_wp2_with fail
 refine (HE.out _).mono ?_
 rintro e w2 ⟨rfl,hb2⟩
 have HB2:=hid (below_trans HBW.out (below_trans (below_drewN (Below.refl _ _) _) hb2))
 clear hb2
 go_wp2_with fail
 go_ret
 exact ⟨rfl,HB2.out⟩
theorem an16_far {s:Nat} {b:Int} (h:IsNm wd 16) (hR:RW w0 w C Y aw cap zs V m) (h0:w.cell? ⟨g,o,none⟩=some (.int .i64 (s:Int))) (h1:w.cell? ⟨g,o+1,none⟩=some (.int .i64 b)) (ha:s<zs.length) (hb:¬ b<6) :
  Calls Tryz.prog 16 #[.pointer (some ⟨Y.xb,0,none⟩),.agg #[.string wd,.slice (some ⟨g,o,none⟩) 2 cap1]] w fun e w'=>e=.returned (.string (bB (errO 2)))∧Below w.heap.size w w':=by
 have k0:(wd.toList == [115,105,116,101,115])=false:=h 0 (by decide)
 have k1:(wd.toList == [98,101,103,105,110])=false:=h 1 (by decide)
 have k2:(wd.toList == [114,101,102,117,115,101])=false:=h 2 (by decide)
 have k3:(wd.toList == [116,105,99,107])=false:=h 3 (by decide)
 have k4:(wd.toList == [103,111])=false:=h 4 (by decide)
 have k5:(wd.toList == [108,111,115,101])=false:=h 5 (by decide)
 have k6:(wd.toList == [116,119,105,99,101])=false:=h 6 (by decide)
 have k7:(wd.toList == [108,105,110,107])=false:=h 7 (by decide)
 have k8:(wd.toList == [98,114,101,97,107])=false:=h 8 (by decide)
 have k9:(wd.toList == [99,117,116])=false:=h 9 (by decide)
 have k10:(wd.toList == [100,111,119,110])=false:=h 10 (by decide)
 have k11:(wd.toList == [117,112])=false:=h 11 (by decide)
 have k12:(wd.toList == [99,104,101,99,107])=false:=h 12 (by decide)
 have k13:(wd.toList == [97,108,108])=false:=h 13 (by decide)
 have k14:(wd.toList == [102,108,121])=false:=h 14 (by decide)
 have k15:(wd.toList == [115,116,97,116,101])=false:=h 15 (by decide)
 have k16:(wd.toList == [108,101,97,100])=true:=h 16 (by decide)
 have k17:(wd.toList == [105,115])=false:=h 17 (by decide)
 have k18:(wd.toList == [101,118,101,110,116,115])=false:=h 18 (by decide)
 have hbx:=bxL_new w wd (.slice (some ⟨g,o,none⟩) 2 cap1)
 have hbW:Below w.heap.size w (bxW w wd (.slice (some ⟨g,o,none⟩) 2 cap1)):=(Below.refl _ _).alloc (Nat.le_refl _) _
 have hRW:=hR.later hbW
 have e0:=cell_later hbW h0
 have e1:=cell_later hbW h1
 obtain ⟨W,HW⟩:∃ W,Hid (bxW w wd (.slice (some ⟨g,o,none⟩) 2 cap1)=W):=⟨_,rfl⟩
 have hW:w.alloc (.cells #[.string wd,.slice (some ⟨g,o,none⟩) 2 cap1] 36)=W:=HW.out
 rw [show w.alloc (.cells #[.string wd,.slice (some ⟨g,o,none⟩) 2 cap1] 36)=bxW w wd (.slice (some ⟨g,o,none⟩) 2 cap1) from rfl,HW.out] at hbx
 rw [HW.out] at hRW hbW e0 e1
 obtain ⟨d0,d1⟩:=hbx
 have HRW:=hid hRW
 have HBW:=hid hbW
 obtain ⟨-,c1,-,-,-⟩:=hRW.cells
 obtain ⟨n,Hn⟩:∃ n,Hid (zs.length=n):=⟨_,rfl⟩
 rw [Hn.out] at c1 ha
 have hge:¬ (n:Int)≤(s:Int):=by omega
 have hb6:(6:Int)≤b:=by omega
 have HE:Hid (∀ U,Calls Tryz.prog 10 #[.int .i64 2] U fun e w'=>e=.returned (.string (bB (errO 2)))∧Below U.heap.size U w'):=fun U=>eText_any 1 (by decide) U
 clear hR h h0 h1 hbW hRW ha hb
 go_enter Tryz.func16,Tryz.ntmps16
 go_wp2_with fail
 go_quiet (fail)
 go_wp2_with fail
 refine (HE.out _).mono ?_
 rintro e w2 ⟨rfl,hb2⟩
 have HB2:=hid (below_trans HBW.out (below_trans (below_drewN (Below.refl _ _) _) hb2))
 clear hb2
 go_wp2_with fail
 go_ret
 exact ⟨rfl,HB2.out⟩
theorem an15_far {s:Nat} {b:Int} (h:IsNm wd 15) (hR:RW w0 w C Y aw cap zs V m) (h0:w.cell? ⟨g,o,none⟩=some (.int .i64 (s:Int))) (h1:w.cell? ⟨g,o+1,none⟩=some (.int .i64 b)) (ha:s<zs.length) (hb:¬ b<6) :
  Calls Tryz.prog 16 #[.pointer (some ⟨Y.xb,0,none⟩),.agg #[.string wd,.slice (some ⟨g,o,none⟩) 2 cap1]] w fun e w'=>e=.returned (.string (bB (errO 2)))∧Below w.heap.size w w':=by
 have k0:(wd.toList == [115,105,116,101,115])=false:=h 0 (by decide)
 have k1:(wd.toList == [98,101,103,105,110])=false:=h 1 (by decide)
 have k2:(wd.toList == [114,101,102,117,115,101])=false:=h 2 (by decide)
 have k3:(wd.toList == [116,105,99,107])=false:=h 3 (by decide)
 have k4:(wd.toList == [103,111])=false:=h 4 (by decide)
 have k5:(wd.toList == [108,111,115,101])=false:=h 5 (by decide)
 have k6:(wd.toList == [116,119,105,99,101])=false:=h 6 (by decide)
 have k7:(wd.toList == [108,105,110,107])=false:=h 7 (by decide)
 have k8:(wd.toList == [98,114,101,97,107])=false:=h 8 (by decide)
 have k9:(wd.toList == [99,117,116])=false:=h 9 (by decide)
 have k10:(wd.toList == [100,111,119,110])=false:=h 10 (by decide)
 have k11:(wd.toList == [117,112])=false:=h 11 (by decide)
 have k12:(wd.toList == [99,104,101,99,107])=false:=h 12 (by decide)
 have k13:(wd.toList == [97,108,108])=false:=h 13 (by decide)
 have k14:(wd.toList == [102,108,121])=false:=h 14 (by decide)
 have k15:(wd.toList == [115,116,97,116,101])=true:=h 15 (by decide)
 have k16:(wd.toList == [108,101,97,100])=false:=h 16 (by decide)
 have k17:(wd.toList == [105,115])=false:=h 17 (by decide)
 have k18:(wd.toList == [101,118,101,110,116,115])=false:=h 18 (by decide)
 have hbx:=bxL_new w wd (.slice (some ⟨g,o,none⟩) 2 cap1)
 have hbW:Below w.heap.size w (bxW w wd (.slice (some ⟨g,o,none⟩) 2 cap1)):=(Below.refl _ _).alloc (Nat.le_refl _) _
 have hRW:=hR.later hbW
 have e0:=cell_later hbW h0
 have e1:=cell_later hbW h1
 obtain ⟨W,HW⟩:∃ W,Hid (bxW w wd (.slice (some ⟨g,o,none⟩) 2 cap1)=W):=⟨_,rfl⟩
 have hW:w.alloc (.cells #[.string wd,.slice (some ⟨g,o,none⟩) 2 cap1] 36)=W:=HW.out
 rw [show w.alloc (.cells #[.string wd,.slice (some ⟨g,o,none⟩) 2 cap1] 36)=bxW w wd (.slice (some ⟨g,o,none⟩) 2 cap1) from rfl,HW.out] at hbx
 rw [HW.out] at hRW hbW e0 e1
 obtain ⟨d0,d1⟩:=hbx
 have HRW:=hid hRW
 have HBW:=hid hbW
 obtain ⟨-,c1,-,-,-⟩:=hRW.cells
 obtain ⟨n,Hn⟩:∃ n,Hid (zs.length=n):=⟨_,rfl⟩
 rw [Hn.out] at c1 ha
 have hge:¬ (n:Int)≤(s:Int):=by omega
 have hb6:(6:Int)≤b:=by omega
 have HE:Hid (∀ U,Calls Tryz.prog 10 #[.int .i64 2] U fun e w'=>e=.returned (.string (bB (errO 2)))∧Below U.heap.size U w'):=fun U=>eText_any 1 (by decide) U
 clear hR h h0 h1 hbW hRW ha hb
 go_enter Tryz.func16,Tryz.ntmps16
 go_wp2_with fail
 go_quiet (fail)
 go_wp2_with fail
 refine (HE.out _).mono ?_
 rintro e w2 ⟨rfl,hb2⟩
 have HB2:=hid (below_trans HBW.out (below_trans (below_drewN (Below.refl _ _) _) hb2))
 clear hb2
 go_wp2_with fail
 go_ret
 exact ⟨rfl,HB2.out⟩
theorem an17_ok {s:Nat} (h:IsNm wd 17) (hR:RW w0 w C Y aw cap zs V m) (h0:w.cell? ⟨g,o,none⟩=some (.int .i64 (s:Int))) (ha:s<zs.length) :
  Calls Tryz.prog 16 #[.pointer (some ⟨Y.xb,0,none⟩),.agg #[.string wd,.slice (some ⟨g,o,none⟩) 1 cap1]] w fun e w'=>e=.returned (.string (bB (if upN (V.nd s)=true then [117,112] else [100,111,119,110])))∧Below w.heap.size w w':=by
 have k0:(wd.toList == [115,105,116,101,115])=false:=h 0 (by decide)
 have k1:(wd.toList == [98,101,103,105,110])=false:=h 1 (by decide)
 have k2:(wd.toList == [114,101,102,117,115,101])=false:=h 2 (by decide)
 have k3:(wd.toList == [116,105,99,107])=false:=h 3 (by decide)
 have k4:(wd.toList == [103,111])=false:=h 4 (by decide)
 have k5:(wd.toList == [108,111,115,101])=false:=h 5 (by decide)
 have k6:(wd.toList == [116,119,105,99,101])=false:=h 6 (by decide)
 have k7:(wd.toList == [108,105,110,107])=false:=h 7 (by decide)
 have k8:(wd.toList == [98,114,101,97,107])=false:=h 8 (by decide)
 have k9:(wd.toList == [99,117,116])=false:=h 9 (by decide)
 have k10:(wd.toList == [100,111,119,110])=false:=h 10 (by decide)
 have k11:(wd.toList == [117,112])=false:=h 11 (by decide)
 have k12:(wd.toList == [99,104,101,99,107])=false:=h 12 (by decide)
 have k13:(wd.toList == [97,108,108])=false:=h 13 (by decide)
 have k14:(wd.toList == [102,108,121])=false:=h 14 (by decide)
 have k15:(wd.toList == [115,116,97,116,101])=false:=h 15 (by decide)
 have k16:(wd.toList == [108,101,97,100])=false:=h 16 (by decide)
 have k17:(wd.toList == [105,115])=true:=h 17 (by decide)
 have k18:(wd.toList == [101,118,101,110,116,115])=false:=h 18 (by decide)
 have hbx:=bxL_new w wd (.slice (some ⟨g,o,none⟩) 1 cap1)
 have hbW:Below w.heap.size w (bxW w wd (.slice (some ⟨g,o,none⟩) 1 cap1)):=(Below.refl _ _).alloc (Nat.le_refl _) _
 have hRW:=hR.later hbW
 have e0:=cell_later hbW h0
 obtain ⟨W,HW⟩:∃ W,Hid (bxW w wd (.slice (some ⟨g,o,none⟩) 1 cap1)=W):=⟨_,rfl⟩
 have hW:w.alloc (.cells #[.string wd,.slice (some ⟨g,o,none⟩) 1 cap1] 36)=W:=HW.out
 rw [show w.alloc (.cells #[.string wd,.slice (some ⟨g,o,none⟩) 1 cap1] 36)=bxW w wd (.slice (some ⟨g,o,none⟩) 1 cap1) from rfl,HW.out] at hbx
 rw [HW.out] at hRW hbW e0
 obtain ⟨d0,d1⟩:=hbx
 have HRW:=hid hRW
 have HBW:=hid hbW
 obtain ⟨-,c1,-,-,-⟩:=hRW.cells
 have c2:=hRW.ns s ha
 have c3:W.cell? ⟨(Y.K s).nd,0,none⟩=some (rsV (Y.K s) (V.nd s)):=by rw [cell_of_row _ _ _ _ _ _ (hRW.nds s ha).row]; rfl
 obtain ⟨n,Hn⟩:∃ n,Hid (zs.length=n):=⟨_,rfl⟩
 rw [Hn.out] at c1 ha
 have hge:¬ (n:Int)≤(s:Int):=by omega
 have hlt:(s:Int)<(n:Int):=by omega
 unfold rsV at c3
 clear hR h h0 hbW hRW ha
 cases hu:upN (V.nd s) with
 | true =>
  rw [hu,if_pos rfl] at c3
  rw [if_pos rfl]
  go_enter Tryz.func16,Tryz.ntmps16
  go_wp2_with fail
  go_quiet (fail)
  go_wp2_with fail
  go_quiet (fail)
  go_wp2_with fail
  go_ret
  exact ⟨rfl,below_drewN (below_drewN HBW.out _) _⟩
 | false =>
  rw [hu,if_neg (by decide)] at c3
  rw [if_neg (by decide)]
  go_enter Tryz.func16,Tryz.ntmps16
  go_wp2_with fail
  go_quiet (fail)
  go_wp2_with fail
  go_quiet (fail)
  go_wp2_with fail
  go_ret
  exact ⟨rfl,below_drewN (below_drewN HBW.out _) _⟩
theorem an16_ok {s d:Nat} (h:IsNm wd 16) (hR:RW w0 w C Y aw cap zs V m) (h0:w.cell? ⟨g,o,none⟩=some (.int .i64 (s:Int))) (h1:w.cell? ⟨g,o+1,none⟩=some (.int .i64 (d:Int))) (ha:s<zs.length) (hb:d<6) :
  Calls Tryz.prog 16 #[.pointer (some ⟨Y.xb,0,none⟩),.agg #[.string wd,.slice (some ⟨g,o,none⟩) 2 cap1]] w fun e w'=>e=.returned (.string (leadT (V.nd s) d))∧Below w.heap.size w w':=by
 have k0:(wd.toList == [115,105,116,101,115])=false:=h 0 (by decide)
 have k1:(wd.toList == [98,101,103,105,110])=false:=h 1 (by decide)
 have k2:(wd.toList == [114,101,102,117,115,101])=false:=h 2 (by decide)
 have k3:(wd.toList == [116,105,99,107])=false:=h 3 (by decide)
 have k4:(wd.toList == [103,111])=false:=h 4 (by decide)
 have k5:(wd.toList == [108,111,115,101])=false:=h 5 (by decide)
 have k6:(wd.toList == [116,119,105,99,101])=false:=h 6 (by decide)
 have k7:(wd.toList == [108,105,110,107])=false:=h 7 (by decide)
 have k8:(wd.toList == [98,114,101,97,107])=false:=h 8 (by decide)
 have k9:(wd.toList == [99,117,116])=false:=h 9 (by decide)
 have k10:(wd.toList == [100,111,119,110])=false:=h 10 (by decide)
 have k11:(wd.toList == [117,112])=false:=h 11 (by decide)
 have k12:(wd.toList == [99,104,101,99,107])=false:=h 12 (by decide)
 have k13:(wd.toList == [97,108,108])=false:=h 13 (by decide)
 have k14:(wd.toList == [102,108,121])=false:=h 14 (by decide)
 have k15:(wd.toList == [115,116,97,116,101])=false:=h 15 (by decide)
 have k16:(wd.toList == [108,101,97,100])=true:=h 16 (by decide)
 have k17:(wd.toList == [105,115])=false:=h 17 (by decide)
 have k18:(wd.toList == [101,118,101,110,116,115])=false:=h 18 (by decide)
 have hbx:=bxL_new w wd (.slice (some ⟨g,o,none⟩) 2 cap1)
 have hbW:Below w.heap.size w (bxW w wd (.slice (some ⟨g,o,none⟩) 2 cap1)):=(Below.refl _ _).alloc (Nat.le_refl _) _
 have hRW:=hR.later hbW
 have e0:=cell_later hbW h0
 have e1:=cell_later hbW h1
 obtain ⟨W,HW⟩:∃ W,Hid (bxW w wd (.slice (some ⟨g,o,none⟩) 2 cap1)=W):=⟨_,rfl⟩
 have hW:w.alloc (.cells #[.string wd,.slice (some ⟨g,o,none⟩) 2 cap1] 36)=W:=HW.out
 rw [show w.alloc (.cells #[.string wd,.slice (some ⟨g,o,none⟩) 2 cap1] 36)=bxW w wd (.slice (some ⟨g,o,none⟩) 2 cap1) from rfl,HW.out] at hbx
 rw [HW.out] at hRW hbW e0 e1
 obtain ⟨d0,d1⟩:=hbx
 have HRW:=hid hRW
 have HBW:=hid hbW
 obtain ⟨-,c1,-,-,-⟩:=hRW.cells
 have HL:Hid (∀ U,Below W.heap.size W U→Calls Tryz.prog 34 #[.pointer (some ⟨Y.xb,0,none⟩),.int .i64 (s:Int),.int .i64 (d:Int)] U fun e w'=>e=.returned (.string (leadT (V.nd s) d))∧w'=U):=fun U hb'=>by
  refine (rleadOf_is s d (hRW.later hb') ha hb).mono ?_
  rintro e w' ⟨⟨t,rfl,hbb⟩,rfl⟩
  refine ⟨?_,rfl⟩
  have hh:=(hRW.inv.nd s ha).ld d
  rw [hbb]
  unfold leadT
  cases hx:(V.nd s).ld d with
  | none=>rfl
  | some x=>simp only [stP_B (hh x hx).2.2.1]
 obtain ⟨n,Hn⟩:∃ n,Hid (zs.length=n):=⟨_,rfl⟩
 rw [Hn.out] at c1 ha
 have hge:¬ (n:Int)≤(s:Int):=by omega
 have hb6:¬ (6:Int)≤(d:Int):=by omega
 generalize leadT (V.nd s) d=tx at HL ⊢
 clear hR h h0 h1 hbW hRW ha hb
 go_enter Tryz.func16,Tryz.ntmps16
 go_wp2_with fail
 go_quiet (fail)
 go_wp2_with fail
 go_quiet ((go_at_call 34; exact (HL.out _ (below_drewN (Below.refl _ _) _)).mono fun _ _ hq=>⟨hq.1,_,hq.2⟩))
 go_wp2_with fail
 go_ret
 exact ⟨rfl,below_drewN (below_drewN HBW.out _) _⟩
theorem an15_ok {s d h1 h2 h3:Nat} (h:IsNm wd 15) (hR:RW w0 w C Y aw cap zs V m) (h0:w.cell? ⟨g,o,none⟩=some (.int .i64 (s:Int))) (h1':w.cell? ⟨g,o+1,none⟩=some (.int .i64 (d:Int))) (ha:s<zs.length) (hb:d<6) (hst:stN (V.nd s) d=⟨h1,h2,h3⟩) :
  Calls Tryz.prog 16 #[.pointer (some ⟨Y.xb,0,none⟩),.agg #[.string wd,.slice (some ⟨g,o,none⟩) 2 cap1]] w fun e w'=>e=.returned (.string (bB (stateO h1 h2 h3)))∧Below w.heap.size w w':=by
 have k0:(wd.toList == [115,105,116,101,115])=false:=h 0 (by decide)
 have k1:(wd.toList == [98,101,103,105,110])=false:=h 1 (by decide)
 have k2:(wd.toList == [114,101,102,117,115,101])=false:=h 2 (by decide)
 have k3:(wd.toList == [116,105,99,107])=false:=h 3 (by decide)
 have k4:(wd.toList == [103,111])=false:=h 4 (by decide)
 have k5:(wd.toList == [108,111,115,101])=false:=h 5 (by decide)
 have k6:(wd.toList == [116,119,105,99,101])=false:=h 6 (by decide)
 have k7:(wd.toList == [108,105,110,107])=false:=h 7 (by decide)
 have k8:(wd.toList == [98,114,101,97,107])=false:=h 8 (by decide)
 have k9:(wd.toList == [99,117,116])=false:=h 9 (by decide)
 have k10:(wd.toList == [100,111,119,110])=false:=h 10 (by decide)
 have k11:(wd.toList == [117,112])=false:=h 11 (by decide)
 have k12:(wd.toList == [99,104,101,99,107])=false:=h 12 (by decide)
 have k13:(wd.toList == [97,108,108])=false:=h 13 (by decide)
 have k14:(wd.toList == [102,108,121])=false:=h 14 (by decide)
 have k15:(wd.toList == [115,116,97,116,101])=true:=h 15 (by decide)
 have k16:(wd.toList == [108,101,97,100])=false:=h 16 (by decide)
 have k17:(wd.toList == [105,115])=false:=h 17 (by decide)
 have k18:(wd.toList == [101,118,101,110,116,115])=false:=h 18 (by decide)
 have hbx:=bxL_new w wd (.slice (some ⟨g,o,none⟩) 2 cap1)
 have hbW:Below w.heap.size w (bxW w wd (.slice (some ⟨g,o,none⟩) 2 cap1)):=(Below.refl _ _).alloc (Nat.le_refl _) _
 have hRW:=hR.later hbW
 have e0:=cell_later hbW h0
 have e1:=cell_later hbW h1'
 obtain ⟨W,HW⟩:∃ W,Hid (bxW w wd (.slice (some ⟨g,o,none⟩) 2 cap1)=W):=⟨_,rfl⟩
 have hW:w.alloc (.cells #[.string wd,.slice (some ⟨g,o,none⟩) 2 cap1] 36)=W:=HW.out
 rw [show w.alloc (.cells #[.string wd,.slice (some ⟨g,o,none⟩) 2 cap1] 36)=bxW w wd (.slice (some ⟨g,o,none⟩) 2 cap1) from rfl,HW.out] at hbx
 rw [HW.out] at hRW hbW e0 e1
 obtain ⟨d0,d1⟩:=hbx
 have HRW:=hid hRW
 have HBW:=hid hbW
 obtain ⟨-,c1,-,-,-⟩:=hRW.cells
 have hgd:=(hRW.inv.nd s ha).gd d hb
 have hgd2:(⟨h1,h2,h3⟩:St).good:=by rw [← hst]; exact hgd
 obtain ⟨b1,b2,b3⟩:h1≤5∧h2≤1048576∧h3≤h2:=hgd2
 have HSt:Hid (∀ U,Below W.heap.size W U→Calls Tryz.prog 35 #[.pointer (some ⟨Y.xb,0,none⟩),.int .i64 (s:Int),.int .i64 (d:Int)] U fun e w'=>e=.returned (.agg #[.int .i64 (h1:Int),.int .i64 (h2:Int),.int .i64 (h3:Int)])∧Below U.heap.size U w'):=fun U hb'=>rstate_is s d h1 h2 h3 (hRW.later hb') ha hb hst
 have HNm:Hid (∀ U:World,Calls Tryz.prog 33 #[.int .i64 (h1:Int)] U fun e w'=>e=.returned (.string (bB (phaseO (h1:Int))))∧Below U.heap.size U w'):=fun U=>named_any h1 (by omega) U
 have HD2:Hid (∀ U:World,Calls Tryz.prog 20 #[.int .i64 (h2:Int)] U fun e w'=>e=.returned (.string (bB (Lib.decDigits h2)))∧Below U.heap.size U w'):=fun U=>dec_any h2 U (by omega)
 have HD3:Hid (∀ U:World,Calls Tryz.prog 20 #[.int .i64 (h3:Int)] U fun e w'=>e=.returned (.string (bB (Lib.decDigits h3)))∧Below U.heap.size U w'):=fun U=>dec_any h3 U (by omega)
 have HOut:Hid ((((bB (phaseO (h1:Int)) ++ (⟨#[32]⟩:ByteArray)) ++ bB (Lib.decDigits h2)) ++ (⟨#[32]⟩:ByteArray)) ++ bB (Lib.decDigits h3)=bB (stateO h1 h2 h3)):=by
  change _=_
  rw [show (⟨#[32]⟩:ByteArray)=bB [32] from rfl,bB_app,bB_app,bB_app,bB_app]
  unfold stateO
  simp
 have z1:(bB (phaseO (h1:Int))).size≤20:=phaseO_len (h1:Int)
 have z2:=dec_size h2 (by omega)
 have z3:=dec_size h3 (by omega)
 generalize bB (phaseO (h1:Int))=x1 at HNm z1 HOut
 generalize bB (Lib.decDigits h2)=x2 at HD2 z2 HOut
 generalize bB (Lib.decDigits h3)=x3 at HD3 z3 HOut
 have z4:(⟨#[32]⟩:ByteArray).size=1:=rfl
 have u1:(9223372036854775807<x1.size+1)=False:=eq_false (by omega)
 have u2:(9223372036854775807<x1.size+1+x2.size)=False:=eq_false (by omega)
 have u3:(9223372036854775807<x1.size+1+x2.size+1)=False:=eq_false (by omega)
 have u4:(9223372036854775807<x1.size+1+x2.size+1+x3.size)=False:=eq_false (by omega)
 have HU:=hid (And.intro u1 (And.intro u2 (And.intro u3 u4)))
 clear u1 u2 u3 u4
 clear z1 z2 z3 z4
 obtain ⟨n,Hn⟩:∃ n,Hid (zs.length=n):=⟨_,rfl⟩
 rw [Hn.out] at c1 ha
 have hge:¬ (n:Int)≤(s:Int):=by omega
 have hb6:¬ (6:Int)≤(d:Int):=by omega
 clear hR h h0 h1' hbW hRW ha hb hst hgd b1 b2 b3
 go_enter Tryz.func16,Tryz.ntmps16
 go_wp2_with fail
 go_quiet (fail)
 obtain ⟨W0,HW0⟩:∃ W0,Hid (W.drewN nq=W0):=⟨_,rfl⟩
 have HB0:Hid (Below W.heap.size W W0):=by rw [← HW0.out]; exact below_drewN (Below.refl _ _) _
 rw [HW0.out]
 replace d0:=cell_later HB0.out d0
 replace d1:=cell_later HB0.out d1
 replace e0:=cell_later HB0.out e0
 replace e1:=cell_later HB0.out e1
 obtain ⟨W1,HW1⟩:∃ W1,Hid (W0.alloc (.cells #[.int .i64 0,.int .i64 0,.int .i64 0] 80)=W1):=⟨_,rfl⟩
 have hW1:=HW1.out
 have HB1:Hid (Below W0.heap.size W0 W1):=by rw [← HW1.out]; exact (Below.refl _ _).alloc (Nat.le_refl _) _
 have HR1:Hid (W1.heap[W0.heap.size]? = some (.cells #[.int .i64 0,.int .i64 0,.int .i64 0] 80 (0,0))):=by rw [← HW1.out]; exact heap_alloc_new W0 _
 have d1':=cell_later HB1.out d1
 have e0':=cell_later HB1.out e0
 have e1':=cell_later HB1.out e1
 have HF2:=hid (HSt.out W1.drew (HB0.out.trans (HB1.out.mono HB0.out.size)).drew)
 have HF3:=hid (HSt.out W0.drew HB0.out.drew)
 have HS0:Hid (W0.drew.cell? ⟨w.heap.size,1,none⟩=some (.slice (some ⟨g,o,none⟩) 2 cap1)∧W0.drew.cell? ⟨g,o,none⟩=some (.int .i64 (s:Int))∧W0.drew.cell? ⟨g,o+1,none⟩=some (.int .i64 (d:Int))):=⟨d1,e0,e1⟩
 have HS1:Hid (W1.drew.cell? ⟨w.heap.size,1,none⟩=some (.slice (some ⟨g,o,none⟩) 2 cap1)∧W1.drew.cell? ⟨g,o,none⟩=some (.int .i64 (s:Int))∧W1.drew.cell? ⟨g,o+1,none⟩=some (.int .i64 (d:Int))):=⟨d1',e0',e1'⟩
 have hne1:w.heap.size≠W0.heap.size:=fun e=>by have q1:w.heap.size<W0.heap.size:=cell_lt d1; omega
 have hne2:g≠W0.heap.size:=fun e=>by have q1:g<W0.heap.size:=cell_lt e0; omega
 go_wp2_with fail
 go_region_held3 (fun U=>U.cell? ⟨w.heap.size,1,none⟩=some (.slice (some ⟨g,o,none⟩) 2 cap1)∧U.cell? ⟨g,o,none⟩=some (.int .i64 (s:Int))∧U.cell? ⟨g,o+1,none⟩=some (.int .i64 (d:Int))) (first|with_reducible exact hk2|with_reducible exact ⟨set3_keep hk2.1 hne1,set3_keep hk2.2.1 hne2,set3_keep hk2.2.2 hne2⟩|with_reducible exact ⟨cell_later ((Below.refl w2.heap.size w2).alloc (Nat.le_refl _) _) hk2.1,cell_later ((Below.refl w2.heap.size w2).alloc (Nat.le_refl _) _) hk2.2.1,cell_later ((Below.refl w2.heap.size w2).alloc (Nat.le_refl _) _) hk2.2.2⟩|with_reducible exact HS0.out|with_reducible exact HS1.out|with_reducible exact ⟨d1,e0,e1⟩|with_reducible exact ⟨d1',e0',e1'⟩) (first
  | (go_at_call 35; (with_reducible refine HF2.out.mono ?_); rintro e w2 ⟨rfl,hb2⟩; have HB2:=hid hb2; have hk2:=And.intro (cell_later hb2 d1') (And.intro (cell_later hb2 e0') (cell_later hb2 e1')); have hr2:=(hb2.block _ (row_ltJ HR1.out)).trans HR1.out; have f0:=cell_of_row _ _ 0 _ _ _ hr2; have f1:=cell_of_row _ _ 1 _ _ _ hr2; have f2:=cell_of_row _ _ 2 _ _ _ hr2; have q0:=frozen_of_row _ _ 0 _ _ hr2; have q1:=frozen_of_row _ _ 1 _ _ hr2; have q2:=frozen_of_row _ _ 2 _ _ hr2; have HR2:=hid hr2; clear hb2 hr2)
  | (go_at_call 35; (with_reducible refine HF3.out.mono ?_); rintro e w2 ⟨rfl,hb2⟩; have HB2:=hid hb2; have hk2:=And.intro (cell_later hb2 d1) (And.intro (cell_later hb2 e0) (cell_later hb2 e1)); clear hb2))
 ·obtain ⟨W3,HW3⟩:∃ W3,Hid (w2.alloc (.cells #[.int .i64 (h1:Int),.int .i64 (h2:Int),.int .i64 (h3:Int)] 80)=W3):=⟨_,rfl⟩
  have hr3:W3.heap[w2.heap.size]? = some (.cells #[.int .i64 (h1:Int),.int .i64 (h2:Int),.int .i64 (h3:Int)] 80 (0,0)):=by rw [← HW3.out]; exact heap_alloc_new w2 _
  have HB3:Hid (Below W.heap.size W W3):=by
   rw [← HW3.out]
   exact below_trans HB0.out (below_trans (show Below W0.heap.size W0 w2 from ((Below.refl _ W0).drew).trans HB2.out) ((Below.refl _ _).alloc (Nat.le_refl _) _))
  have a0:W3.cell? ⟨w2.heap.size,0,none⟩=some (.int .i64 (h1:Int)):=by rw [cell_of_row _ _ _ _ _ _ hr3]; rfl
  have a1:W3.cell? ⟨w2.heap.size,1,none⟩=some (.int .i64 (h2:Int)):=by rw [cell_of_row _ _ _ _ _ _ hr3]; rfl
  have a2:W3.cell? ⟨w2.heap.size,2,none⟩=some (.int .i64 (h3:Int)):=by rw [cell_of_row _ _ _ _ _ _ hr3]; rfl
  have HNm3:=hid (HNm.out W3.drew)
  have HS3:Hid (W3.drew.cell? ⟨w2.heap.size,0,none⟩=some (.int .i64 (h1:Int))∧W3.drew.cell? ⟨w2.heap.size,1,none⟩=some (.int .i64 (h2:Int))∧W3.drew.cell? ⟨w2.heap.size,2,none⟩=some (.int .i64 (h3:Int))):=⟨a0,a1,a2⟩
  rw [HW3.out]
  clear hr3
  obtain ⟨u1,u2,u3,u4⟩:=HU.out
  clear hne1 hne2
  go_wp2_with fail
  go_region_held3 (fun U=>U.cell? ⟨w2.heap.size,0,none⟩=some (.int .i64 (h1:Int))∧U.cell? ⟨w2.heap.size,1,none⟩=some (.int .i64 (h2:Int))∧U.cell? ⟨w2.heap.size,2,none⟩=some (.int .i64 (h3:Int))) (first|with_reducible exact kk3|with_reducible exact kk2|with_reducible exact kk1|with_reducible exact HS3.out|with_reducible exact ⟨a0,a1,a2⟩) (first
   | (go_at_call 33; (with_reducible refine HNm3.out.mono ?_); rintro e w5 ⟨rfl,hb5⟩; have HB5:=hid hb5; have kk1:=And.intro (cell_later hb5 a0) (And.intro (cell_later hb5 a1) (cell_later hb5 a2)); clear hb5)
   | (go_at_call 20; (with_reducible refine (HD2.out w5).mono ?_); rintro e w6 ⟨rfl,hb6⟩; have HB6:=hid hb6; have kk2:=And.intro (cell_later hb6 kk1.1) (And.intro (cell_later hb6 kk1.2.1) (cell_later hb6 kk1.2.2)); clear hb6)
   | (go_at_call 20; (with_reducible refine (HD3.out w6).mono ?_); rintro e w7 ⟨rfl,hb7⟩; have HB7:=hid hb7; have kk3:=And.intro (cell_later hb7 kk2.1) (And.intro (cell_later hb7 kk2.2.1) (cell_later hb7 kk2.2.2)); clear hb7))
  go_wp2_with fail
  go_ret
  exact ⟨by rw [← HOut.out]; rfl,below_trans HBW.out (below_trans HB3.out (below_trans (show Below W3.heap.size W3 w5 from ((Below.refl _ W3).drew).trans HB5.out) (below_trans HB6.out HB7.out)))⟩
 ·obtain ⟨W3,HW3⟩:∃ W3,Hid (((w2.setCell ⟨W0.heap.size,0,none⟩ (.int .i64 (h1:Int))).setCell ⟨W0.heap.size,1,none⟩ (.int .i64 (h2:Int))).setCell ⟨W0.heap.size,2,none⟩ (.int .i64 (h3:Int))=W3):=⟨_,rfl⟩
  have hr3:W3.heap[W0.heap.size]? = some (.cells #[.int .i64 (h1:Int),.int .i64 (h2:Int),.int .i64 (h3:Int)] 80 (0,0)):=by rw [← HW3.out]; exact row3_setL HR2.out _ _ _
  have HB3:Hid (Below W.heap.size W W3):=by
   rw [← HW3.out]
   have hq:Below W0.heap.size W0 w2:=HB1.out.trans ((show Below W1.heap.size W1 w2 from ((Below.refl _ W1).drew).trans HB2.out).mono HB1.out.size)
   exact below_trans HB0.out (Below.setCell (Below.setCell (Below.setCell hq (Nat.le_refl _) _) (Nat.le_refl _) _) (Nat.le_refl _) _)
  have a0:W3.cell? ⟨W0.heap.size,0,none⟩=some (.int .i64 (h1:Int)):=by rw [cell_of_row _ _ _ _ _ _ hr3]; rfl
  have a1:W3.cell? ⟨W0.heap.size,1,none⟩=some (.int .i64 (h2:Int)):=by rw [cell_of_row _ _ _ _ _ _ hr3]; rfl
  have a2:W3.cell? ⟨W0.heap.size,2,none⟩=some (.int .i64 (h3:Int)):=by rw [cell_of_row _ _ _ _ _ _ hr3]; rfl
  have HNm3:=hid (HNm.out W3.drew)
  have HS3:Hid (W3.drew.cell? ⟨W0.heap.size,0,none⟩=some (.int .i64 (h1:Int))∧W3.drew.cell? ⟨W0.heap.size,1,none⟩=some (.int .i64 (h2:Int))∧W3.drew.cell? ⟨W0.heap.size,2,none⟩=some (.int .i64 (h3:Int))):=⟨a0,a1,a2⟩
  rw [HW3.out]
  clear hr3
  obtain ⟨u1,u2,u3,u4⟩:=HU.out
  clear hne1 hne2
  go_wp2_with fail
  go_region_held3 (fun U=>U.cell? ⟨W0.heap.size,0,none⟩=some (.int .i64 (h1:Int))∧U.cell? ⟨W0.heap.size,1,none⟩=some (.int .i64 (h2:Int))∧U.cell? ⟨W0.heap.size,2,none⟩=some (.int .i64 (h3:Int))) (first|with_reducible exact kk3|with_reducible exact kk2|with_reducible exact kk1|with_reducible exact HS3.out|with_reducible exact ⟨a0,a1,a2⟩) (first
   | (go_at_call 33; (with_reducible refine HNm3.out.mono ?_); rintro e w5 ⟨rfl,hb5⟩; have HB5:=hid hb5; have kk1:=And.intro (cell_later hb5 a0) (And.intro (cell_later hb5 a1) (cell_later hb5 a2)); clear hb5)
   | (go_at_call 20; (with_reducible refine (HD2.out w5).mono ?_); rintro e w6 ⟨rfl,hb6⟩; have HB6:=hid hb6; have kk2:=And.intro (cell_later hb6 kk1.1) (And.intro (cell_later hb6 kk1.2.1) (cell_later hb6 kk1.2.2)); clear hb6)
   | (go_at_call 20; (with_reducible refine (HD3.out w6).mono ?_); rintro e w7 ⟨rfl,hb7⟩; have HB7:=hid hb7; have kk3:=And.intro (cell_later hb7 kk2.1) (And.intro (cell_later hb7 kk2.2.1) (cell_later hb7 kk2.2.2)); clear hb7))
  go_wp2_with fail
  go_ret
  exact ⟨by rw [← HOut.out]; rfl,below_trans HBW.out (below_trans HB3.out (below_trans (show Below W3.heap.size W3 w5 from ((Below.refl _ W3).drew).trans HB5.out) (below_trans HB6.out HB7.out)))⟩
end
end Go.Proofs.YtaehdgemkafinaaGreatDoor
