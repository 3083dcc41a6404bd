/-
  On the way to WStepsProof, WCommitsProof, WAgreesProof, WEndsProof, WWaitsProof, JTampersProof, PAgreesProof, PAgainProof: S6 Q6 Q7 Q8 QS UD.
-/
import Derived.Test.YtadhpkopkkjmfaaGreatDoorBz23
import Derived.Test.YtadhpkopkkjmfaaGreatDoorBz27
import Derived.Lib.AppendZerosOnto
set_option maxHeartbeats 8000000
set_option maxRecDepth 100000
namespace Go.Proofs.YtadhpkopkkjmfaaGreatDoor
theorem good_fits {s:St} (h:s.good):fitsB s.ph s.pr s.at_=true:=by
 obtain ⟨h1,h2,h3⟩:=h
 exact decide_eq_true (by omega)
structure Well (B:ByteArray) (over:Bool) (l:Int) (m:Nat):Prop where
 good:∀ d,d<6→(dealL B.data.toList d).2.good
 num:∀ d,d<6→(dealL B.data.toList d).1≤m
 pow:over=false→l≠-2
theorem Well.mono {B:ByteArray} {over:Bool} {l:Int} {m k:Nat} (h:Well B over l m) (hk:m≤k):Well B over l k:=⟨h.good,fun d hd=>Nat.le_trans (h.num d hd) hk,h.pow⟩
theorem Well.on {B:ByteArray} {over:Bool} {l:Int} {m:Nat} (h:Well B over l m):Well B over (-1) m:=⟨h.good,h.num,fun _=>by omega⟩
theorem Well.cut {B:ByteArray} {over:Bool} {l:Int} {m:Nat} (n:Int) (h:Well B over l m):Well B over (cL l n) m:=by
 refine ⟨h.good,h.num,fun ho=>?_⟩
 have:=h.pow ho
 unfold cL
 rw [if_neg this]
 split
 ·exact this
 ·omega
theorem well_zero (n:Nat) (h:216≤n):Well (zeroB n) false (-1) 0 :=
 ⟨fun d hd=>by rw [deal_zero n d (by omega)]; exact ⟨by decide,by decide,by decide⟩,fun d hd=>by rw [deal_zero n d (by omega)]; exact Nat.le_refl _,fun _=>by omega⟩
end Go.Proofs.YtadhpkopkkjmfaaGreatDoor
namespace Go.Proofs.YtadhpkopkkjmfaaGreatDoor
open Go.RowKit
section
variable {w:World} {lb b cap id:Nat} {deal att:Int} {zs:List Int} {P:PL}
theorem LD.setTold (h:LD w lb b cap id deal att zs P) {i:Nat} (hi:i<7) (s:S3) :
  LD (((w.setCell ⟨lb,6+i * 3,none⟩ (.int .i64 s.p)).setCell ⟨lb,6+i * 3+1,none⟩ (.int .i64 s.r)).setCell ⟨lb,6+i * 3+2,none⟩ (.int .i64 s.a)) lb b cap id deal att zs { P with told:=toldS P.told i s }:=by
 obtain ⟨t0,t1,t2,t3,t4,t5,t6,e⟩:=seven h.pw.len
 have hP:P={ P with told:=[t0,t1,t2,t3,t4,t5,t6] }:=by rw [← e]
 have hw:PW zs.length P:=h.pw
 rw [hP] at h
 rw [e]
 have key:∀ L:List S3,L.length=7→PW zs.length { P with told:=L }:=fun L hL=>⟨hL,hw.lo,hw.hi⟩
 match i,hi with
 | 0,_=>exact ((h.set (Q:={ P with told:=[⟨s.p,t0.r,t0.a⟩,t1,t2,t3,t4,t5,t6] }) (key _ rfl) rfl).set (Q:={ P with told:=[⟨s.p,s.r,t0.a⟩,t1,t2,t3,t4,t5,t6] }) (key _ rfl) rfl).set (key _ rfl) rfl
 | 1,_=>exact ((h.set (Q:={ P with told:=[t0,⟨s.p,t1.r,t1.a⟩,t2,t3,t4,t5,t6] }) (key _ rfl) rfl).set (Q:={ P with told:=[t0,⟨s.p,s.r,t1.a⟩,t2,t3,t4,t5,t6] }) (key _ rfl) rfl).set (key _ rfl) rfl
 | 2,_=>exact ((h.set (Q:={ P with told:=[t0,t1,⟨s.p,t2.r,t2.a⟩,t3,t4,t5,t6] }) (key _ rfl) rfl).set (Q:={ P with told:=[t0,t1,⟨s.p,s.r,t2.a⟩,t3,t4,t5,t6] }) (key _ rfl) rfl).set (key _ rfl) rfl
 | 3,_=>exact ((h.set (Q:={ P with told:=[t0,t1,t2,⟨s.p,t3.r,t3.a⟩,t4,t5,t6] }) (key _ rfl) rfl).set (Q:={ P with told:=[t0,t1,t2,⟨s.p,s.r,t3.a⟩,t4,t5,t6] }) (key _ rfl) rfl).set (key _ rfl) rfl
 | 4,_=>exact ((h.set (Q:={ P with told:=[t0,t1,t2,t3,⟨s.p,t4.r,t4.a⟩,t5,t6] }) (key _ rfl) rfl).set (Q:={ P with told:=[t0,t1,t2,t3,⟨s.p,s.r,t4.a⟩,t5,t6] }) (key _ rfl) rfl).set (key _ rfl) rfl
 | 5,_=>exact ((h.set (Q:={ P with told:=[t0,t1,t2,t3,t4,⟨s.p,t5.r,t5.a⟩,t6] }) (key _ rfl) rfl).set (Q:={ P with told:=[t0,t1,t2,t3,t4,⟨s.p,s.r,t5.a⟩,t6] }) (key _ rfl) rfl).set (key _ rfl) rfl
 | 6,_=>exact ((h.set (Q:={ P with told:=[t0,t1,t2,t3,t4,t5,⟨s.p,t6.r,t6.a⟩] }) (key _ rfl) rfl).set (Q:={ P with told:=[t0,t1,t2,t3,t4,t5,⟨s.p,s.r,t6.a⟩] }) (key _ rfl) rfl).set (key _ rfl) rfl
theorem LD.told (h:LD w lb b cap id deal att zs P):SL w (some ⟨lb,6,none⟩) P.told:=by
 obtain ⟨t0,t1,t2,t3,t4,t5,t6,e⟩:=seven h.pw.len
 have hr:=h.row
 unfold pC at hr
 rw [e] at hr ⊢
 intro i hi
 refine ⟨lb,6,rfl,?_⟩
 match i,(show i<7 from hi) with
 | 0,_=>refine ⟨?_,?_,?_⟩ <;> rw [cell_of_row _ _ _ _ _ _ hr] <;> rfl
 | 1,_=>refine ⟨?_,?_,?_⟩ <;> rw [cell_of_row _ _ _ _ _ _ hr] <;> rfl
 | 2,_=>refine ⟨?_,?_,?_⟩ <;> rw [cell_of_row _ _ _ _ _ _ hr] <;> rfl
 | 3,_=>refine ⟨?_,?_,?_⟩ <;> rw [cell_of_row _ _ _ _ _ _ hr] <;> rfl
 | 4,_=>refine ⟨?_,?_,?_⟩ <;> rw [cell_of_row _ _ _ _ _ _ hr] <;> rfl
 | 5,_=>refine ⟨?_,?_,?_⟩ <;> rw [cell_of_row _ _ _ _ _ _ hr] <;> rfl
 | 6,_=>refine ⟨?_,?_,?_⟩ <;> rw [cell_of_row _ _ _ _ _ _ hr] <;> rfl
theorem LD.toldAt (h:LD w lb b cap id deal att zs P) {i:Nat} (hi:i<7):∃ x y z,w.cell? ⟨lb,6+i * 3,none⟩=some x∧w.cell? ⟨lb,6+i * 3+1,none⟩=some y∧w.cell? ⟨lb,6+i * 3+2,none⟩=some z:=by
 obtain ⟨b',off,e,h0,h1,h2⟩:=h.told i (by rw [h.pw.len]; exact hi)
 cases e
 exact ⟨_,_,_,h0,h1,h2⟩
theorem choose_is (a:Option Addr) (cap':Nat) (L:List S3) (m:Nat) (x:Int) (y:Bool) (hm:L.length=m) (hl:m≤200) (hL:SL w a L) (hx:chooseL L=(x,y)) :
  Calls Tryz.prog 172 #[.slice a m cap'] w fun e w'=>e=.returned (.tuple #[.int .i64 x,.bool y])∧Below w.heap.size w w':=by
 subst hm
 have:=choose_any a cap' L w hl hL
 rw [hx] at this
 exact this
theorem ldtell_any (A:Nat→Addr) (i:Nat) (s:S3) (hi:i<7) (he:errW zs=0) (hE:Held3 w A) (h:LD w lb b cap id deal att zs P) :
  Calls Tryz.prog 144 #[.pointer (some ⟨lb,0,none⟩),.int .i64 (i:Int),.agg #[.int .i64 s.p,.int .i64 s.r,.int .i64 s.a]] w fun e w'=>∃ v,e=.returned v∧FrB w.heap.size w' v (outL id deal att zs.length (tellP zs P i s).2)∧LD w' lb b cap id deal att zs (tellP zs P i s).1∧Kept (In1 lb) w w':=by
 obtain ⟨s1,s2,s3⟩:=s
 simp only
 obtain ⟨x,HX⟩:∃ x,Hid (enoughB zs P.ans=x):=⟨_,rfl⟩
 obtain ⟨R,HR⟩:∃ R,Hid (tellP zs P i ⟨s1,s2,s3⟩=R):=⟨_,rfl⟩
 rw [HR.out]
 obtain ⟨W,HW⟩:∃ W,Hid (w.alloc (.cells #[.int .i64 s1,.int .i64 s2,.int .i64 s3] 43)=W):=⟨_,rfl⟩
 have HB:Hid (Below w.heap.size w W):=by rw [← HW.out]; exact (Below.refl _ _).alloc (Nat.le_refl _) _
 have HRw:Hid (W.heap[w.heap.size]? = some (.cells #[.int .i64 s1,.int .i64 s2,.int .i64 s3] 43 (0,0))):=by rw [← HW.out]; exact heap_alloc_new w _
 have b0:W.cell? ⟨w.heap.size,0,none⟩=some (.int .i64 s1):=by rw [cell_of_row _ _ _ _ _ _ HRw.out]; rfl
 have b1:W.cell? ⟨w.heap.size,1,none⟩=some (.int .i64 s2):=by rw [cell_of_row _ _ _ _ _ _ HRw.out]; rfl
 have b2:W.cell? ⟨w.heap.size,2,none⟩=some (.int .i64 s3):=by rw [cell_of_row _ _ _ _ _ _ HRw.out]; rfl
 have HL:=hid (h.later HB.out)
 have HE:=hid (hE.later HB.out)
 have HZ:=hid he
 have hn:=(errW_zero he).2.1
 have hlb:lb<w.heap.size:=row_ltJ h.row
 obtain ⟨u0,u1,u2,c0,c1,c2⟩:=HL.out.toldAt hi
 have z0:=HL.out.fz (6+i * 3)
 have z1:=HL.out.fz (6+i * 3+1)
 have z2:=HL.out.fz (6+i * 3+2)
 have hW:=HW.out
 have HL2:=hid ((HL.out.setTold hi ⟨s1,s2,s3⟩).later (Below.refl _ _).drew)
 have HK2:Hid (Kept (In1 lb) W (((W.setCell ⟨lb,6+i * 3,none⟩ (.int .i64 s1)).setCell ⟨lb,6+i * 3+1,none⟩ (.int .i64 s2)).setCell ⟨lb,6+i * 3+2,none⟩ (.int .i64 s3)).drew):=((((Kept.refl _ _).set1 _ _).set1 _ _).set1 _ _).drew
 have HE2:=hid (HE.out.kept HK2.out (fun k hk=>by rw [show k=lb from hk]; exact h.glo))
 have HX2:Hid (enoughB zs ({ P with told:=toldS P.told i ⟨s1,s2,s3⟩ }:PL).ans=x):=HX.out
 clear h hE he
 have hi2:(i:Int)<7:=by omega
 go_enter Tryz.func144,Tryz.ntmps144
 go_wp2_with fail
 go_region
 all_goals go_wp2_with fail
 refine (ldenough_is A x HL2.out HZ.out HE2.out HX2.out).mono ?_
 rintro e w1 ⟨rfl,hb⟩
 have HL3:=hid (HL2.out.later hb)
 have HK3:=hid (((Kept.of_below (S:=In1 lb) HB.out).trans HK2.out).trans (Kept.of_below hb))
 clear hb b0 b1 b2 c0 c1 c2 z0 z1 z2 u0 u1 u2
 cases x with
 | false =>
  obtain rfl:R=({ P with told:=toldS P.told i ⟨s1,s2,s3⟩ },none):=by rw [← HR.out]; unfold tellP; rw [if_pos HX.out]
  go_wp2_with fail
  go_ret
  exact ⟨_,rfl,FrB.zero _ _,HL3.out,HK3.out⟩
 | true =>
  obtain ⟨⟨cx,cy⟩,HC⟩:∃ z,Hid (chooseL (toldS P.told i ⟨s1,s2,s3⟩)=z):=⟨_,rfl⟩
  have HSL:=hid HL3.out.told
  have hlb3:lb<w1.heap.size:=row_ltJ HL3.out.row
  go_wp2_with fail
  refine (choose_is (some ⟨lb,6,none⟩) _ (toldS P.told i ⟨s1,s2,s3⟩) 7 cx cy HL3.out.pw.len (by decide) HSL.out HC.out).mono ?_
  rintro e w2 ⟨rfl,hb⟩
  have HL4:=hid (HL3.out.later hb)
  have HK4:=hid (HK3.out.trans (Kept.of_below hb))
  clear hb
  cases cy with
  | true =>
   obtain rfl:R=decP { P with told:=toldS P.told i ⟨s1,s2,s3⟩ } cx:=by rw [← HR.out]; unfold tellP; rw [if_neg (by rw [HX.out]; decide),HC.out,if_pos rfl]
   go_wp2_with fail
   refine (lddecide_any cx HL4.out hn).mono ?_
   rintro e w3 ⟨v,rfl,ho,hl,hk⟩
   have HV:=hid (And.intro (ho.mono HK4.out.size) (And.intro hl (HK4.out.trans hk)))
   clear ho hl hk
   go_wp2_with fail
   go_ret
   exact ⟨_,rfl,HV.out⟩
  | false =>
   obtain rfl:R=preP { P with told:=toldS P.told i ⟨s1,s2,s3⟩ } cx:=by rw [← HR.out]; unfold tellP; rw [if_neg (by rw [HX.out]; decide),HC.out,if_neg (by simp)]
   go_wp2_with fail
   refine (ldprepare_any cx HL4.out hn).mono ?_
   rintro e w3 ⟨v,rfl,ho,hl,hk⟩
   have HV:=hid (And.intro (ho.mono HK4.out.size) (And.intro hl (HK4.out.trans hk)))
   clear ho hl hk
   go_wp2_with fail
   go_ret
   exact ⟨_,rfl,HV.out⟩
end
section
variable {w:World} {lb b cap id:Nat} {deal att:Int} {zs:List Int} {P:PL}
theorem ldtakes_is (f t d k a:Int) (y:Bool) (p1 p2 p3:Int) (x:Bool) (hn:zs.length≤7) (hs:P.stt<4) (h:LD w lb b cap id deal att zs P) (hx:takesB zs.length id deal att P ⟨f,t,d,k,a,y,p1,p2,p3⟩=x) :
  Calls Tryz.prog 141 #[.pointer (some ⟨lb,0,none⟩),frV f t d k a y p1 p2 p3] w fun e w'=>e=.returned (.bool x)∧Below w.heap.size w w':=by
 subst hx; exact ldtakes_any f t d k a y p1 p2 p3 hn hs h
structure HI (w W:World) (A:Nat→Addr) (lb b cap id:Nat) (deal att:Int) (zs:List Int) (P:PL) (f t d k a:Int) (y:Bool) (p1 p2 p3:Int):Prop where
 ld:LD W lb b cap id deal att zs P
 fr:W.heap[w.heap.size]? = some (.cells #[.int .i64 f,.int .i64 t,.int .i64 d,.int .i64 k,.int .i64 a,.bool y,.int .i64 p1,.int .i64 p2,.int .i64 p3] 104 (0,0))
 kp:Kept (In1 lb) w W
 er:Held3 W A
theorem HI.go {W V:World} {A:Nat→Addr} {Q:PL} {f t d k a:Int} {y:Bool} {p1 p2 p3:Int} (h:HI w W A lb b cap id deal att zs P f t d k a y p1 p2 p3) (hlb:lb<w.heap.size) (hl:LD V lb b cap id deal att zs Q) (hk:Kept (In1 lb) W V):HI w V A lb b cap id deal att zs Q f t d k a y p1 p2 p3 :=
 ⟨hl,hk.row h.fr (fun e=>by have:w.heap.size=lb:=e; omega),h.kp.trans hk,h.er.kept hk (fun i hi=>by rw [show i=lb from hi]; exact hl.glo)⟩
theorem HI.later {W V:World} {A:Nat→Addr} {f t d k a:Int} {y:Bool} {p1 p2 p3:Int} (h:HI w W A lb b cap id deal att zs P f t d k a y p1 p2 p3) (hlb:lb<w.heap.size) (hb:Below W.heap.size W V):HI w V A lb b cap id deal att zs P f t d k a y p1 p2 p3 :=
 h.go hlb (h.ld.later hb) (Kept.of_below hb)
theorem ldhear_any (A:Nat→Addr) (f t d k a:Int) (y:Bool) (p1 p2 p3:Int) (he:errW zs=0) (hs:P.stt<4) (hE:Held3 w A) (h:LD w lb b cap id deal att zs P) :
  Calls Tryz.prog 108 #[.pointer (some ⟨lb,0,none⟩),frV f t d k a y p1 p2 p3] w fun e w'=>∃ v,e=.returned v∧FrB w.heap.size w' v (outL id deal att zs.length (phear zs id deal att P ⟨f,t,d,k,a,y,p1,p2,p3⟩).2)∧LD w' lb b cap id deal att zs (phear zs id deal att P ⟨f,t,d,k,a,y,p1,p2,p3⟩).1∧Kept (In1 lb) w w':=by
 obtain ⟨R,HR⟩:∃ R,Hid (phear zs id deal att P ⟨f,t,d,k,a,y,p1,p2,p3⟩=R):=⟨_,rfl⟩
 rw [HR.out]
 obtain ⟨x,HT⟩:∃ x,Hid (takesB zs.length id deal att P ⟨f,t,d,k,a,y,p1,p2,p3⟩=x):=⟨_,rfl⟩
 obtain ⟨W,HW⟩:∃ W,Hid (w.alloc (.cells #[.int .i64 f,.int .i64 t,.int .i64 d,.int .i64 k,.int .i64 a,.bool y,.int .i64 p1,.int .i64 p2,.int .i64 p3] 104)=W):=⟨_,rfl⟩
 have HB:Hid (Below w.heap.size w W):=by rw [← HW.out]; exact (Below.refl _ _).alloc (Nat.le_refl _) _
 have hlbw:lb<w.heap.size:=row_ltJ h.row
 have H1:Hid (HI w W A lb b cap id deal att zs P f t d k a y p1 p2 p3):=⟨h.later HB.out,by rw [← HW.out]; exact heap_alloc_new w _,Kept.of_below HB.out,hE.later HB.out⟩
 have HZ:=hid he
 have HST:=hid hs
 have hn:=(errW_zero he).2.1
 obtain ⟨b0,b1,b2,b3,b4,b5,b6,b7,b8⟩:=nine H1.out.fr
 have hW:=HW.out
 clear h hE he hs
 go_enter Tryz.func108,Tryz.ntmps108
 go_wp2_with fail
 refine (ldtakes_is f t d k a y p1 p2 p3 x hn HST.out H1.out.ld HT.out).mono ?_
 rintro e w1 ⟨rfl,hb⟩
 have H2:=hid (H1.out.later hlbw hb)
 clear hb b0 b1 b2 b3 b4 b5 b6 b7 b8 H1 HB HW hW
 cases x with
 | false =>
  obtain rfl:R=(P,none):=by rw [← HR.out]; unfold phear; rw [if_neg (by rw [HT.out]; decide)]
  go_wp2_with fail
  go_ret
  exact ⟨_,rfl,FrB.zero _ _,H2.out.ld,H2.out.kp⟩
 | true =>
  obtain ⟨-,-,⟨q0,q1⟩,-⟩:=takesB_in HT.out
  simp only at q0 q1
  obtain ⟨m,rfl⟩:=Int.eq_ofNat_of_zero_le q0
  have hm:m<zs.length:=by omega
  have hm7:m<7:=by omega
  obtain ⟨b0,b1,b2,b3,b4,b5,b6,b7,b8⟩:=nine H2.out.fr
  have c5:=H2.out.ld.cells.2.2.2.2.2.1
  have z5:=H2.out.ld.fz 5
  have hbd:=ansS_bd hn H2.out.ld.pw.lo H2.out.ld.pw.hi hm
  have HLn:=hid (H2.out.ld.setAns (ansS P.ans m) hbd.1 hbd.2)
  have hlb1:lb<w1.heap.size:=row_ltJ H2.out.ld.row
  have hp:=(pow_le7 (n:=m) (by omega)).1
  have hp2:=(pow_le7 (n:=m) (by omega)).2
  unfold ansS at HLn
  have H3:=hid (H2.out.go hlbw (HLn.out.later (Below.refl _ _).drew) ((Kept.refl _ _).set1 _ _).drew)
  have HP:Hid (phear zs id deal att P ⟨(m:Int),t,d,k,a,y,p1,p2,p3⟩=takenP zs P ⟨(m:Int),t,d,k,a,y,p1,p2,p3⟩):=by unfold Hid phear; rw [if_pos HT.out]
  have HN:Hid (noteP P ⟨(m:Int),t,d,k,a,y,p1,p2,p3⟩={ P with ans:=bits .or .i64 P.ans (2 ^ m) }):=rfl
  by_cases g2:k=2
  ·subst g2
   obtain rfl:R=voteP zs.length { P with ans:=bits .or .i64 P.ans (2 ^ m) } y:=by rw [← HR.out,HP.out]; unfold takenP; rw [if_pos rfl]; rfl
   go_wp2_with fail
   go_region
   all_goals go_wp2_with fail
   refine (ldvote_any y hn H3.out.ld).mono ?_
   rintro e w2 ⟨v,rfl,ho,hl,hk⟩
   have HV:=hid (And.intro (ho.mono H3.out.kp.size) (And.intro hl (H3.out.kp.trans hk)))
   clear ho hl hk
   go_wp2_with fail
   go_ret
   exact ⟨_,rfl,HV.out⟩
  ·have e2:(k == 2)=false:=beq_eq_false_iff_ne.2 g2
   go_wp2_with fail
   go_region
   all_goals go_wp2_with fail
   refine (ldsee_any p2 H3.out.ld).mono ?_
   rintro e w2 ⟨rfl,hl,hk⟩
   have H4:=hid (H3.out.go hlbw hl hk)
   clear hl hk b0 b1 b2 b3 b4 b5 b6 b7 b8 c5 z5
   obtain ⟨b0,b1,b2,b3,b4,b5,b6,b7,b8⟩:=nine H4.out.fr
   have z4:=H4.out.ld.fz 4
   have c4:=H4.out.ld.cells.2.2.2.2.1
   have hlb2:lb<w2.heap.size:=row_ltJ H4.out.ld.row
   cases y with
   | false =>
    obtain rfl:R=({ seeP { P with ans:=bits .or .i64 P.ans (2 ^ m) } p2 with stt:=3 },none):=by rw [← HR.out,HP.out]; unfold takenP; rw [if_neg (by exact g2),if_pos rfl]; rfl
    have HQ:=hid (H4.out.go hlbw (H4.out.ld.setSt 3) ((Kept.refl _ _).set1 _ _))
    rw [stP3] at HQ
    go_wp2_with fail
    go_ret
    exact ⟨_,rfl,FrB.zero _ _,HQ.out.ld,HQ.out.kp⟩
   | true =>
    by_cases g4:k=4
    ·subst g4
     obtain rfl:R=tellP zs (seeP { P with ans:=bits .or .i64 P.ans (2 ^ m) } p2) m ⟨p1,p2,p3⟩:=by rw [← HR.out,HP.out]; unfold takenP; rw [if_neg (by simp),if_neg (by simp),if_pos rfl]; rfl
     go_wp2_with fail
     refine (ldtell_any A m ⟨p1,p2,p3⟩ hm7 HZ.out H4.out.er H4.out.ld).mono ?_
     rintro e w3 ⟨v,rfl,ho,hl,hk⟩
     have HV:=hid (And.intro (ho.mono H4.out.kp.size) (And.intro hl (H4.out.kp.trans hk)))
     clear ho hl hk
     go_wp2_with fail
     go_ret
     exact ⟨_,rfl,HV.out⟩
    ·have e4:(k == 4)=false:=beq_eq_false_iff_ne.2 g4
     obtain rfl:R=ackP zs (seeP { P with ans:=bits .or .i64 P.ans (2 ^ m) } p2):=by rw [← HR.out,HP.out]; unfold takenP; rw [if_neg (by exact g2),if_neg (by simp),if_neg (by exact g4)]; rfl
     go_wp2_with fail
     refine (ldack_any A HZ.out H4.out.er H4.out.ld).mono ?_
     rintro e w3 ⟨v,rfl,ho,hl,hk⟩
     have HV:=hid (And.intro (ho.mono H4.out.kp.size) (And.intro hl (H4.out.kp.trans hk)))
     clear ho hl hk
     go_wp2_with fail
     go_ret
     exact ⟨_,rfl,HV.out⟩
end
theorem sl_nil (b off n cap:Nat) (w:World):(binOp .eql 22 (.slice (some ⟨b,off,none⟩) n cap) (.slice none 0 0)).run Tryz.prog w=.ok (.bool false) w:=by
 rfl
theorem clone_any (v:Value) (zs:List Int) (w:World) (hv:IsSl w v zs) (h1:1≤zs.length) (hl:zs.length≤30) :
  Calls Tryz.prog 49 #[v] w fun e w'=>∃ v',e=.returned v'∧w'.ownsRow w.heap.size 3 1 v' zs.length (zs.map (Value.int .i64))∧Below w.heap.size w w':=by
 obtain ⟨i0,hi,hz0,hz1,hz2⟩:=info_parts Tryz.infoInt
 obtain ⟨a,cap,rfl,hm,-,hc⟩:=hv
 have HM:=hid hm
 obtain ⟨b,off,rfl,hcc⟩:=hc (by omega)
 have HC:Hid (∀ o:Obj,∀ j u,(zs.map (Value.int .i64))[j]? = some u→(w.alloc o).cell? ((⟨b,off,none⟩:Addr).add j)=some u):=by
  intro o j u hj
  rw [List.getElem?_map] at hj
  rcases Nat.lt_or_ge j zs.length with h|h
  ·rw [List.getElem?_eq_getElem h] at hj
   simp at hj
   subst hj
   have:=hcc j h
   rw [getD_lt zs j h] at this
   rw [addr_add]; exact cell_alloc _ this
  ·rw [List.getElem?_eq_none h] at hj; cases hj
 clear hc hcc
 have HO:Hid (∀ u∈zs.map (Value.int .i64),u.oneCell'=true):=by
  intro u hu
  obtain ⟨n,-,rfl⟩:=List.mem_map.1 hu
  rfl
 have HOw:Hid ((w.alloc (.cells #[] 3)).ownsRow w.heap.size 3 1 (.slice (some ⟨w.heap.size,0,none⟩) 0 0) 0 []):=World.ownsRow_lit w #[] 0 (Nat.le_refl _) (by unfold maxLen; omega) rfl
 have hnil:=sl_nil b off zs.length cap
 go_enter Tryz.func49,Tryz.ntmps49
 go_wp2_with (at_builtin; refine wpList_append_own _ rfl _ _ 22 rfl w.heap.size 3 i0 (.int .i64 0) 1 8 Tryz.underlying22 hi hz0 hz1 hz2 rfl (by decide) _ 0 [] rfl HOw.out ⟨b,off,none⟩ zs.length cap (zs.map (Value.int .i64)) rfl (by simp) (HC.out _) HO.out (by have:=HM.out; omega) (by omega) (by simp) ?_)
 intro v' w1 hown hgrow _
 have ho2:w1.ownsRow w.heap.size 3 1 v' zs.length (zs.map (Value.int .i64)):=by simpa using hown
 clear hown
 have HB:Hid (Below w.heap.size w w1):=((Below.refl _ _).alloc (Nat.le_refl _) (.cells #[] 3)).grown hgrow (by simp) (fun j hj=>(HOw.out.lt j hj).1)
 clear hgrow
 go_wp2_with fail
 go_ret
 exact ⟨_,rfl,ho2,HB.out⟩
def P0:PL:=⟨0,0,[⟨0,0,0⟩,⟨0,0,0⟩,⟨0,0,0⟩,⟨0,0,0⟩,⟨0,0,0⟩,⟨0,0,0⟩,⟨0,0,0⟩],0,0,false⟩
theorem P0_w (n:Nat):PW n P0:=⟨rfl,Int.le_refl _,Int.pow_pos (by decide)⟩
theorem check_ok (A:Nat→Addr) (v:Value) (zs:List Int) (w:World) (hv:IsSl w v zs) (hE:Held3 w A) (he:errW zs=0) :
  Calls Tryz.prog 48 #[v] w fun e w'=>e=.returned .nilIface∧w'=w:=by
 have:=check_any A v zs w hv hE
 rw [he] at this
 exact this
theorem ldbegin_ok (A:Nat→Addr) (v:Value) (zs:List Int) (id:Nat) (deal att:Int) (w:World) (hv:IsSl w v zs) (hE:Held3 w A) (he:errW zs=0) (hid':id<zs.length) (h0:0≤deal) (h1:deal<6) :
  Calls Tryz.prog 105 #[.int .i64 (id:Int),.int .i64 deal,v,.int .i64 att] w fun e w'=>∃ lb b cap,e=.returned (.tuple #[.pointer (some ⟨lb,0,none⟩),.nilIface])∧LD w' lb b cap id deal att zs P0∧Below w.heap.size w w'∧w.heap.size≤b:=by
 have HS:=hid hv
 have HE:=hid hE
 have HZ:=hid he
 obtain ⟨q1,q2,-,-⟩:=errW_zero he
 have hlen:(id:Int)<(zs.length:Int):=by omega
 have g1:¬ (zs.length:Int)≤(id:Int):=by omega
 obtain ⟨a,cap0,rfl,-,-,-⟩:=hv
 clear hE he
 go_enter Tryz.func105,Tryz.ntmps105
 go_wp2_with (go_at_call 48; refine (check_ok A _ zs _ HS.out HE.out HZ.out).mono ?_; rintro e w1 ⟨rfl,rfl⟩)
 refine (clone_any _ zs _ HS.out q1 (by omega)).mono ?_
 rintro e w1 ⟨v',rfl,ho,hb⟩
 rcases ho.2 with ⟨-,hz⟩|⟨g,cap,cur,rfl,hg,hgg,hle,hcap,hsz,htk⟩
 ·omega
 have HOw:=hid ho
 have HB:=hid hb
 clear ho hb hgg hle hcap hsz htk
 go_wp2_with fail
 go_ret2
 have hg2:g<w1.heap.size:=by
  rcases HOw.out.2 with ⟨hx,-⟩|⟨g',cap',cur',hx,-,hgg',-⟩
  ·cases hx
  ·cases hx
   exact row_ltJ hgg'
 refine ⟨w1.heap.size,g,cap,rfl,⟨heap_alloc_new w1 _,fun i hi=>cell_alloc _ ?_,hg2,P0_w _,fun j=>Nat.lt_of_lt_of_le (gW_lt HE.out j) HB.out.size⟩,HB.out.alloc HB.out.size _,hg⟩
 have:=HOw.out.cellAt i (by omega)
 rw [Nat.zero_add,this]
 simp [hi]
theorem ldBegin_ok (A:Nat→Addr) (v:Value) (zs:List Int) (id:Nat) (deal:Int) (w:World) (hv:IsSl w v zs) (hE:Held3 w A) (he:errW zs=0) (hid':id<zs.length) (h0:0≤deal) (h1:deal<6) :
  Calls Tryz.prog 56 #[.int .i64 (id:Int),.int .i64 deal,v] w fun e w'=>∃ lb b cap,e=.returned (.tuple #[.pointer (some ⟨lb,0,none⟩),.nilIface])∧LD w' lb b cap id deal 0 zs P0∧Below w.heap.size w w'∧w.heap.size≤b:=by
 have HC:=hid (ldbegin_ok A v zs id deal 0 w hv hE he hid' h0 h1)
 obtain ⟨a,cap0,rfl,-,-,-⟩:=hv
 clear hE he
 go_enter Tryz.func56,Tryz.ntmps56
 go_wp2_with fail
 refine HC.out.mono ?_
 rintro e w1 ⟨lb,b,cap,rfl,hl,hb,hg⟩
 have HL:=hid (And.intro hl (And.intro hb hg))
 clear hl hb hg
 go_wp2_with fail
 go_ret2
 exact ⟨lb,b,cap,rfl,HL.out⟩
theorem ldTry_ok (A:Nat→Addr) (v:Value) (zs:List Int) (id:Nat) (deal att:Int) (w:World) (hv:IsSl w v zs) (hE:Held3 w A) (he:errW zs=0) (hid':id<zs.length) (h0:0≤deal) (h1:deal<6) (a0:1≤att) (a1:att≤1048576) :
  Calls Tryz.prog 149 #[.int .i64 (id:Int),.int .i64 deal,v,.int .i64 att] w fun e w'=>∃ lb b cap,e=.returned (.tuple #[.pointer (some ⟨lb,0,none⟩),.nilIface])∧LD w' lb b cap id deal att zs P0∧Below w.heap.size w w'∧w.heap.size≤b:=by
 have HC:=hid (ldbegin_ok A v zs id deal att w hv hE he hid' h0 h1)
 obtain ⟨a,cap0,rfl,-,-,-⟩:=hv
 have g1:¬ att<1:=by omega
 have g2:¬ 1048576<att:=by omega
 clear hE he
 go_enter Tryz.func149,Tryz.ntmps149
 go_wp2_with fail
 refine HC.out.mono ?_
 rintro e w1 ⟨lb,b,cap,rfl,hl,hb,hg⟩
 have HL:=hid (And.intro hl (And.intro hb hg))
 clear hl hb hg
 go_wp2_with fail
 go_ret2
 exact ⟨lb,b,cap,rfl,HL.out⟩
theorem ldState_any {w:World} {lb b cap id:Nat} {deal att:Int} {zs:List Int} {P:PL} (h:LD w lb b cap id deal att zs P) :
  Calls Tryz.prog 65 #[.pointer (some ⟨lb,0,none⟩)] w fun e w'=>e=.returned (.string (stP P.stt))∧w'=w:=by
 have c4:=h.cells.2.2.2.2.1
 clear h
 go_enter Tryz.func65,Tryz.ntmps65
 go_wp2_with fail
 go_ret
 exact ⟨rfl,rfl⟩
theorem ldSeen_any {w:World} {lb b cap id:Nat} {deal att:Int} {zs:List Int} {P:PL} (h:LD w lb b cap id deal att zs P) :
  Calls Tryz.prog 177 #[.pointer (some ⟨lb,0,none⟩)] w fun e w'=>e=.returned (.int .i64 P.seen)∧w'=w:=by
 have c28:=h.cells.2.2.2.2.2.2.2.1
 clear h
 go_enter Tryz.func177,Tryz.ntmps177
 go_wp2_with fail
 go_ret
 exact ⟨rfl,rfl⟩
theorem ldStart0_any {w:World} {lb b cap id:Nat} {deal:Int} {zs:List Int} {P:PL} (hn:zs.length≤7) (h:LD w lb b cap id deal 0 zs P) :
  Calls Tryz.prog 58 #[.pointer (some ⟨lb,0,none⟩)] w fun e w'=>∃ v,e=.returned v∧FrB w.heap.size w' v (toL id deal 1 0 0 zs.length)∧Below w.heap.size w w':=by
 have c2:=h.cells.2.2.1
 have H:=hid h
 clear h
 go_enter Tryz.func58,Tryz.ntmps58
 go_wp2_with fail
 refine (ldtoAll_any lb b cap id deal 0 zs P 1 0 w H.out hn).mono ?_
 rintro e w1 ⟨v,rfl,ho,hb⟩
 have HV:=hid (And.intro ho hb)
 clear ho hb
 go_wp2_with fail
 go_ret
 exact ⟨_,rfl,HV.out⟩
theorem zeroC_size (k:Nat):(Builtin.zeroCells (frV 0 0 0 0 0 false 0 0 0).cells k).size=k * 9:=by rw [size_zeroCells]; rfl
theorem ins_grow (base b o n c i vb:Nat) (cur:Array Value) (L:List F9) (F:F9) (w:World) (hb:w.heap[b]? = some (.cells cur 104 (0,0))) (hbase:base≤w.heap.size) (hL:L.length=n) (hnc:n≤c) (hroom:c<n+1) (hbig:n≤1000000000000) (htk:∀ j,j<n * 9→cur[o+j]? = (frCells L)[j]?) (hi:i<n) (hvb:w.heap[vb]? = some (.cells (f9L F).toArray 104 (0,0))) :
  Calls Tryz.prog 113 #[.slice (some ⟨b,o,none⟩) n c,.int .i64 (i:Int),.slice (some ⟨vb,0,none⟩) 1 1] w fun e w'=>∃ G,e=.returned (.slice (some ⟨w.heap.size,0,none⟩) (n+1) G)∧w'.ownsRow base 104 9 (.slice (some ⟨w.heap.size,0,none⟩) (n+1) G) (n+1) (frCells (insL L i F))∧Below w.heap.size w w':=by
 obtain ⟨i0,hi0,hz0,hz1,hz2⟩:=info_parts Tryz.infoFq
 have hbw:=row_ltJ hb
 have hvw:=row_ltJ hvb
 have hcell:∀ x,x<n * 9→w.cell? ⟨b,o+x,none⟩=(frCells L)[x]?:=fun x hx=>by
  rw [cell_of_row _ _ _ _ _ _ hb,htk x hx]
 have hLl:=frCells_length L
 have hdl:(frCells (L.drop i)).length=(n - i) * 9:=by rw [frCells_length,List.length_drop,hL]
 have htl:(frCells (L.take i)).length=i * 9:=by rw [frCells_length,List.length_take,hL,Nat.min_eq_left (by omega)]
 have hkk:(n:Int)+1 - (i:Int)=((n+1 - i:Nat):Int):=by omega
 have hik:i+(n+1 - i)=n+1:=by omega
 have hold:(Builtin.firstCells i0.size i (.slice (some ⟨b,o,none⟩) i c)).run Tryz.prog w.drew=.ok (frCells (L.take i)).toArray w.drew:=by
  rw [hz1]
  exact run_firstCells_some w.drew 9 i ⟨b,o,none⟩ i c (frCells (L.take i)) htl (fun j v hj=>by
   have hjl:=(List.getElem?_eq_some_iff.1 hj).1
   rw [htl] at hjl
   rw [addr_add]
   show w.cell? ⟨b,o+j,none⟩=some v
   rw [hcell _ (by omega),← hj,frCells_take,List.getElem?_take_of_lt hjl])
 have hrz:∀ ty,(Builtin.append_ #[34,3] ty #[.slice (some ⟨b,o,none⟩) i c,.int .i64 ((n:Int)+1 - (i:Int))]).run Tryz.prog w =
   .ok (.slice (some ⟨w.heap.size,0,none⟩) (n+1) (grownCap w (n+1) c 104)) (w.drew.alloc (.cells ((frCells (L.take i)).toArray ++ Builtin.zeroCells (frV 0 0 0 0 0 false 0 0 0).cells (n+1 - i) ++ Builtin.zeroCells (frV 0 0 0 0 0 false 0 0 0).cells (grownCap w (n+1) c 104 - (n+1))) 104)):=fun ty=>by
  have h:=Lib.run_append_grow_zeros w 34 3 ty 104 i0 _ .i64 .i64 Tryz.underlying34 Tryz.underlying3 hi0 hz0 (some ⟨b,o,none⟩) i c (frCells (L.take i)) hold (n+1 - i) (by omega) (by rw [hz1]; omega) (by omega) (by omega) (by rw [hz2]; omega) (by rw [hz2,hik]; exact growslice_fits hroom (by omega))
  rw [hik] at h
  rw [hkk]
  exact h
 obtain ⟨G,hG⟩:∃ G,G=grownCap w (n+1) c 104:=⟨_,rfl⟩
 obtain ⟨ROW,hROW⟩:∃ ROW:Array Value,ROW=(frCells (L.take i)).toArray ++ Builtin.zeroCells (frV 0 0 0 0 0 false 0 0 0).cells (n+1 - i) ++ Builtin.zeroCells (frV 0 0 0 0 0 false 0 0 0).cells (G - (n+1)):=⟨_,rfl⟩
 rw [← hG] at hrz
 rw [← hROW] at hrz
 have hGn:n+1≤G:=by rw [hG]; exact grownCap_ge w _ _ _
 have hGm:G≤maxLen:=by rw [hG]; exact grownCap_le_maxLen w (n+1) c 104 (by unfold maxLen; omega)
 have hRl:ROW.size=G * 9:=by
  rw [hROW,Array.size_append,Array.size_append,zeroC_size,zeroC_size,List.size_toArray,htl]; omega
 have hRt:ROW.toList.take (i * 9)=frCells (L.take i):=by
  rw [hROW,Array.toList_append,Array.toList_append,List.append_assoc,List.toList_toArray,← htl]
  exact List.take_left
 obtain ⟨W1,hW1⟩:∃ W1,W1=w.drew.alloc (.cells ROW 104):=⟨_,rfl⟩
 rw [← hW1] at hrz
 have hr1:W1.heap[w.heap.size]? = some (.cells ROW 104 (0,0)):=by rw [hW1]; exact heap_alloc_new w.drew _
 have hv1:W1.heap[vb]? = some (.cells (f9L F).toArray 104 (0,0)):=by rw [hW1]; exact (Below.heap_alloc w.drew _ _ hvw).trans hvb
 have hb1':W1.heap[b]? = some (.cells cur 104 (0,0)):=by rw [hW1]; exact (Below.heap_alloc w.drew _ _ hbw).trans hb
 have hB1:Below w.heap.size w W1:=by rw [hW1]; exact (Below.refl _ _).drew.alloc (Nat.le_refl _) _
 have hr2:=row_setCells (f9L F) (i * 9) W1 ROW hr1 (by rw [hRl,f9L_length]; omega)
 have hk2:=kept_setCells w.heap.size (f9L F) (i * 9) W1
 obtain ⟨W2,hW2⟩:∃ W2,W2=W1.setCells w.heap.size (i * 9) (f9L F):=⟨_,rfl⟩
 rw [← hW2] at hr2 hk2
 have hs2:(ROW.toList.take (i * 9) ++ f9L F ++ ROW.toList.drop (i * 9+(f9L F).length)).length=G * 9:=by
  rw [List.length_append,List.length_append,List.length_take,List.length_drop,f9L_length,Array.length_toList,hRl]; omega
 have hb2':W2.heap[b]? = some (.cells cur 104 (0,0)):=hk2.row hb1' (fun e=>by have:b=w.heap.size:=e; omega)
 have hcpA:∀ ty dc,(Builtin.copy_ #[34,34] ty #[.slice (some ⟨w.heap.size,i * 9,none⟩) (n+1 - i) dc,.slice (some ⟨vb,0,none⟩) 1 1]).run Tryz.prog W1=.ok (goInt 1) W2:=fun ty dc=>by
  rw [hW2]
  exact run_copy_frs W1 34 ty w.heap.size (i * 9) (n+1 - i) dc ⟨vb,0,none⟩ 1 1 1 (f9L F) (by simp only [Nat.min_def]; split <;> omega) rfl
   (fun j v hj=>by rw [addr_add,cell_of_row _ _ _ _ _ _ hv1,List.getElem?_toArray,Nat.zero_add]; exact hj)
   (fun j hj=>by rw [f9L_length] at hj; rw [cell_of_row _ _ _ _ _ _ hr1,Array.getElem?_eq_getElem (by rw [hRl]; omega)]; rfl) (fun j _=>frozen_of_row _ _ _ _ _ hr1) (f9_oneQ F)
 have hcpB:∀ ty dc sc,(Builtin.copy_ #[34,34] ty #[.slice (some ⟨w.heap.size,(i+1) * 9,none⟩) (n - i) dc,.slice (some ⟨b,o+i * 9,none⟩) (n - i) sc]).run Tryz.prog W2.drew=.ok (goInt ((n - i:Nat):Int)) (W2.drew.setCells w.heap.size ((i+1) * 9) (frCells (L.drop i))):=fun ty dc sc =>
  run_copy_frs W2.drew 34 ty w.heap.size ((i+1) * 9) (n - i) dc ⟨b,o+i * 9,none⟩ (n - i) sc (n - i) (frCells (L.drop i)) (by simp only [Nat.min_def]; split <;> omega) hdl
   (fun j v hj=>by
    have hjl:=(List.getElem?_eq_some_iff.1 hj).1
    rw [hdl] at hjl
    rw [addr_add]
    show W2.cell? ⟨b,o+i * 9+j,none⟩=some v
    rw [cell_of_row _ _ _ _ _ _ hb2',← hj,frCells_drop,List.getElem?_drop,← htk _ (by omega),Nat.add_assoc])
   (fun j hj=>by
    rw [hdl] at hj
    show (W2.cell? _).isSome=true
    rw [cell_of_row _ _ _ _ _ _ hr2,List.getElem?_toArray,List.getElem?_eq_getElem (by rw [hs2]; omega)]; rfl) (fun j _=>frozen_of_row W2 _ _ _ _ hr2) (frCells_one _)
 have hr3:=row_setCells (frCells (L.drop i)) ((i+1) * 9) W2.drew _ (show W2.drew.heap[w.heap.size]? = _ from hr2) (by rw [List.size_toArray,hs2,hdl]; omega)
 have HK3:Hid (Below w.heap.size w (W2.drew.setCells w.heap.size ((i+1) * 9) (frCells (L.drop i)))):=by
  have h1:Kept (In1 w.heap.size) W1 (W2.drew.setCells w.heap.size ((i+1) * 9) (frCells (L.drop i))):=(hk2.trans (Kept.refl _ W2).drew).trans (kept_setCells w.heap.size _ _ _)
  exact h1.below hB1.size (fun x hx=>by rw [show x=w.heap.size from hx]; exact Nat.le_refl _) hB1
 have HF:Hid ((W2.drew.setCells w.heap.size ((i+1) * 9) (frCells (L.drop i))).ownsRow base 104 9 (.slice (some ⟨w.heap.size,0,none⟩) (n+1) G) (n+1) (frCells (insL L i F))):=by
  have hil:(insL L i F).length=n+1:=by unfold insL; rw [List.length_append,List.length_take,List.length_cons,List.length_drop,hL]; omega
  refine ⟨by rw [frCells_length,hil],.inr ⟨w.heap.size,G,_,rfl,hbase,hr3,hGn,hGm,?_,?_⟩⟩
  ·rw [List.size_toArray,List.length_append,List.length_append,List.length_take,List.length_drop,List.toList_toArray,hs2,hdl]; omega
  ·rw [List.toList_toArray,List.toList_toArray,insL_cells,hRt,← frCells_take,← frCells_drop]
   have hA:(frCells (L.take i) ++ f9L F ++ ROW.toList.drop (i * 9+(f9L F).length)).take ((i+1) * 9)=frCells (L.take i) ++ f9L F:=by
    rw [show (i+1) * 9=(frCells (L.take i) ++ f9L F).length by rw [List.length_append,htl,f9L_length]; omega]
    exact List.take_left
   rw [hA]
   have hlen:(frCells (L.take i) ++ f9L F ++ frCells (L.drop i)).length=(n+1) * 9:=by
    rw [List.length_append,List.length_append,htl,f9L_length,hdl]; omega
   rw [← hlen]
   exact List.take_left
 have hz3:(c:Int)<(n:Int)+1:=by omega
 have hGi:¬ (G=i):=by omega
 have hGim:¬ (G=i+1):=by omega
 have hci:¬ (c=i):=by omega
 have hw1:IntKind.i64.wrap ((i:Int)+1)=(i:Int)+1:=by rw [IntKind.wrap_i64]; omega
 have hb1:(0:Int)≤(i:Int)+1:=by omega
 have htn:((i:Int)+1).toNat=i+1:=by omega
 have hb5:(i:Int)≤(n:Int):=by omega
 have hb6:(i:Int)≤(n:Int)+1:=by omega
 have hG63:G≤9223372036854775807:=by unfold maxLen at hGm; omega
 have HW1:=hid hW1
 have hW2':=hW2.symm
 clear hcell hold hkk hik hROW hG hRl hRt hr1 hv1 hb1' hr2 hk2 hs2 hb2' hr3 hb hvb htk hLl hdl htl hB1 hW1 hW2 hGm
 go_enter Tryz.func113,Tryz.ntmps113
 go_wp2_with (first
  | (at_builtin; refine Lib.wpList_append_run _ rfl _ _ _ _ rfl _ _ rfl rfl _ _ (hrz _) ?_)
  | (at_builtin; refine wpList_copy_runF _ rfl _ _ 34 34 rfl _ _ rfl rfl (hcpA _ _) ?_))
 go_region_law (refine step_copy_runF rfl _ _ 34 34 rfl _ _ (by simp [Act.eval,Act.put]) (by simp [Act.eval,Act.put]) (hcpB _ _ _) ?_)
 go_wp2
 go_ret
 exact ⟨G,rfl,HF.out,HK3.out⟩
end Go.Proofs.YtadhpkopkkjmfaaGreatDoor
