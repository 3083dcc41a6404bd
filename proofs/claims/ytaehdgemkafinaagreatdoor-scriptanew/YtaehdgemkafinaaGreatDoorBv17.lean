/-
  On the way to SAnewProof: Q4 Q5 Q6 Q7 Q8 QS.
-/
import Derived.Test.YtaehdgemkafinaaGreatDoorBv12
import Derived.Test.YtaehdgemkafinaaGreatDoorBv8
set_option maxHeartbeats 8000000
set_option maxRecDepth 100000
namespace Go.Proofs.YtaehdgemkafinaaGreatDoor
open Go.RowKit
theorem bit_and0 {s:Int} (k:Nat) (h0:0≤s) (h1:s<9223372036854775808):(bits BinOp.and IntKind.i64 (s / 2 ^ k) 1 == 0)=!bit s k:=by
 obtain ⟨m,rfl⟩:=Int.eq_ofNat_of_zero_le h0
 have e:((m:Int) / 2 ^ k)=((m / 2 ^ k:Nat):Int):=by simp
 have hlt:m / 2 ^ k<9223372036854775808:=Nat.lt_of_le_of_lt (Nat.div_le_self _ _) (by omega)
 rw [e,show (1:Int)=((1:Nat):Int) from rfl,bits_and_nat _ 1 hlt (by decide),Nat.and_one_is_mod]
 unfold bit
 rw [Int.toNat_natCast,Nat.testBit_eq_decide_div_mod_eq,Bool.eq_iff_iff]
 simp; omega
section
variable {w:World} {lb b cap id:Nat} {deal att:Int} {zs:List Int} {P:PL}
theorem ldwaits_is (k:Int) (x:Bool) (hs:P.stt<4) (h:LD w lb b cap id deal att zs P) (hx:waitsB P att k=x) :
  Calls Tryz.prog 217 #[.pointer (some ⟨lb,0,none⟩),.int .i64 k] w fun e w'=>e=.returned (.bool x)∧w'=w:=by
 subst hx; exact ldwaits_any k hs h
theorem tk_ids {n:Nat} {f:F9} (h:¬ (f.t=id∧f.d=deal∧f.a=att)):takesB n id deal att P f=false:=by
 unfold takesB; rw [decide_eq_false h]; rfl
theorem tk_wait {n:Nat} {f:F9} (h:waitsB P att f.k=false):takesB n id deal att P f=false:=by
 unfold takesB; rw [h]; simp
theorem tk_from {n:Nat} {f:F9} (h:¬ (0≤f.f∧f.f<n)):takesB n id deal att P f=false:=by
 unfold takesB; rw [decide_eq_false h]; simp
theorem tk_in {n:Nat} {f:F9} (h:f.t=id∧f.d=deal∧f.a=att) (h2:waitsB P att f.k=true) (h3:0≤f.f∧f.f<n):takesB n id deal att P f=!bit P.ans f.f.toNat:=by
 unfold takesB; rw [decide_eq_true h,h2,decide_eq_true h3]; rfl
theorem ldtakes_any (f t d k a:Int) (y:Bool) (p1 p2 p3:Int) (hn:zs.length≤7) (hs:P.stt<4) (h:LD w lb b cap id deal att zs P) :
  Calls Tryz.prog 191 #[.pointer (some ⟨lb,0,none⟩),frV f t d k a y p1 p2 p3] w fun e w'=>e=.returned (.bool (takesB zs.length id deal att P ⟨f,t,d,k,a,y,p1,p2,p3⟩))∧Below w.heap.size w w':=by
 obtain ⟨W,HW⟩:∃ W,Hid (w.alloc (.cells #[.int .i64 f,.int .i64 t,.int .i64 d,.int .i64 k,.int .i64 a,.bool y,.int .i64 p1,.int .i64 p2,.int .i64 p3] 125)=W):=⟨_,rfl⟩
 have HB:Hid (Below w.heap.size w W):=by rw [← HW.out]; exact (Below.refl _ _).alloc (Nat.le_refl _) _
 have HR:Hid (W.heap[w.heap.size]? = some (.cells #[.int .i64 f,.int .i64 t,.int .i64 d,.int .i64 k,.int .i64 a,.bool y,.int .i64 p1,.int .i64 p2,.int .i64 p3] 125 (0,0))):=by rw [← HW.out]; exact heap_alloc_new w _
 have HX:=hid (h.later HB.out)
 obtain ⟨b0,b1,b2,b3,b4,b5,b6,b7,b8⟩:=nine HR.out
 obtain ⟨c0,c1,c2,c3,c4,c5,c27,c28,c29⟩:=HX.out.cells
 have hW:=HW.out
 have HPW:=hid h.pw
 have HST:=hid hs
 clear h hs
 obtain ⟨r,HR2⟩:∃ r,Hid (takesB zs.length id deal att P ⟨f,t,d,k,a,y,p1,p2,p3⟩=r):=⟨_,rfl⟩
 rw [HR2.out]
 by_cases g1:t=(id:Int)
 ·by_cases g2:d=deal
  ·by_cases g3:a=att
   ·subst g1; subst g2; subst g3
    obtain ⟨x,HWt⟩:∃ x,Hid (waitsB P a k=x):=⟨_,rfl⟩
    cases x with
    | false =>
     obtain rfl:r=false:=HR2.out.symm.trans (tk_wait HWt.out)
     go_enter Tryz.func191,Tryz.ntmps191
     go_wp2_with fail
     go_quiet ((go_at_call 217; exact Calls.quiet_of_same (ldwaits_is k false HST.out (by first|exact HX.out|exact HX.out.later (below_drewN (Below.refl _ _) _)) HWt.out)))
     go_wp2
     go_ret
     exact ⟨rfl,below_drewN HB.out _⟩
    | true =>
     by_cases g4:f<0
     ·obtain rfl:r=false:=HR2.out.symm.trans (tk_from (by show ¬ (0≤f∧f<(zs.length:Int)); omega))
      have g4x:decide (0≤f)=false:=decide_eq_false (by omega)
      go_enter Tryz.func191,Tryz.ntmps191
      go_wp2_with fail
      go_quiet ((go_at_call 217; exact Calls.quiet_of_same (ldwaits_is k true HST.out (by first|exact HX.out|exact HX.out.later (below_drewN (Below.refl _ _) _)) HWt.out)))
      go_wp2
      go_quiet (fail)
      go_wp2
      go_ret
      exact ⟨rfl,below_drewN (below_drewN HB.out _) _⟩
     ·obtain ⟨m,rfl⟩:=Int.eq_ofNat_of_zero_le (show 0≤f by omega)
      by_cases g5:(m:Int)<(zs.length:Int)
      ·obtain rfl:r=!bit P.ans m:=HR2.out.symm.trans (tk_in ⟨rfl,rfl,rfl⟩ HWt.out ⟨by show 0≤(m:Int); omega,g5⟩)
       have hp:=(pow_le7 hn).1
       have h1:=HPW.out.lo
       have h2:=HPW.out.hi
       have hbit:Hid ((bits BinOp.and IntKind.i64 (P.ans / 2 ^ m) 1 == 0)=!bit P.ans m):=bit_and0 m h1 (by omega)
       have hm7:m<7:=by omega
       go_enter Tryz.func191,Tryz.ntmps191
       go_wp2_with fail
       go_quiet ((go_at_call 217; exact Calls.quiet_of_same (ldwaits_is k true HST.out (by first|exact HX.out|exact HX.out.later (below_drewN (Below.refl _ _) _)) HWt.out)))
       go_wp2
       go_quiet (fail)
       go_wp2
       go_ret
       exact ⟨congrArg (fun z=>Ending.returned (.bool z)) hbit.out,below_drewN (below_drewN HB.out _) _⟩
      ·obtain rfl:r=false:=HR2.out.symm.trans (tk_from (by show ¬ (0≤(m:Int)∧(m:Int)<(zs.length:Int)); omega))
       have g5':¬ m<zs.length:=by omega
       go_enter Tryz.func191,Tryz.ntmps191
       go_wp2_with fail
       go_quiet ((go_at_call 217; exact Calls.quiet_of_same (ldwaits_is k true HST.out (by first|exact HX.out|exact HX.out.later (below_drewN (Below.refl _ _) _)) HWt.out)))
       go_wp2
       go_quiet (fail)
       go_wp2
       go_ret
       exact ⟨rfl,below_drewN (below_drewN HB.out _) _⟩
   ·obtain rfl:r=false:=HR2.out.symm.trans (tk_ids (fun x=>g3 x.2.2))
    have e3:(a != att)=true:=bne_iff_ne.2 g3
    subst g1; subst g2
    go_enter Tryz.func191,Tryz.ntmps191
    go_wp2_with fail
    go_quiet (fail)
    go_wp2
    go_ret
    exact ⟨rfl,below_drewN HB.out _⟩
  ·obtain rfl:r=false:=HR2.out.symm.trans (tk_ids (fun x=>g2 x.2.1))
   have e2:(d != deal)=true:=bne_iff_ne.2 g2
   subst g1
   go_enter Tryz.func191,Tryz.ntmps191
   go_wp2_with fail
   go_quiet (fail)
   go_wp2
   go_ret
   exact ⟨rfl,below_drewN HB.out _⟩
 ·obtain rfl:r=false:=HR2.out.symm.trans (tk_ids (fun x=>g1 x.1))
  have e1:(t != (id:Int))=true:=bne_iff_ne.2 g1
  go_enter Tryz.func191,Tryz.ntmps191
  go_wp2_with fail
  go_quiet (fail)
  go_wp2
  go_ret
  exact ⟨rfl,below_drewN HB.out _⟩
end
section
variable {w:World} {lb b cap id:Nat} {deal att:Int} {zs:List Int} {P:PL}
theorem ldvote_any (y:Bool) (hn:zs.length≤7) (h:LD w lb b cap id deal att zs P) :
  Calls Tryz.prog 192 #[.pointer (some ⟨lb,0,none⟩),.bool y] w fun e w'=>∃ v,e=.returned v∧FrB w.heap.size w' v (outL id deal att zs.length (voteP zs.length P y).2)∧LD w' lb b cap id deal att zs (voteP zs.length P y).1∧Kept (In1 lb) w w':=by
 obtain ⟨c0,c1,c2,c3,c4,c5,c27,c28,c29⟩:=h.cells
 have HX:=hid h
 have hp:=(pow_le7 hn).1
 have hp2:=(pow_le7 hn).2
 obtain ⟨R,HR⟩:∃ R,Hid (voteP zs.length P y=R):=⟨_,rfl⟩
 have hlb:lb<w.heap.size:=row_ltJ h.row
 rw [HR.out]
 clear h
 cases y with
 | false =>
  obtain rfl:R=decP P 3:=HR.out.symm
  go_enter Tryz.func192,Tryz.ntmps192
  go_wp2_with fail
  refine (lddecide_any 3 HX.out hn).mono ?_
  rintro e w1 ⟨v,rfl,ho,hl,hk⟩
  have HV:=hid (And.intro ho (And.intro hl hk))
  clear ho hl hk
  go_wp2_with fail
  go_ret
  exact ⟨_,rfl,HV.out⟩
 | true =>
  by_cases g:P.ans=2 ^ zs.length - 1
  ·obtain rfl:R=preP P 4:=by rw [← HR.out]; unfold voteP; rw [if_neg (by decide),if_pos g]
   rw [g] at c5
   go_enter Tryz.func192,Tryz.ntmps192
   go_wp2_with fail
   go_quiet (fail)
   go_wp2_with fail
   refine (ldprepare_any 4 (HX.out.later (below_drewN (Below.refl _ _) _)) hn).mono ?_
   rintro e w1 ⟨v,rfl,ho,hl,hk⟩
   have HV:=hid (And.intro (ho.mono (below_drewN (Below.refl w.heap.size w) nq).size) (And.intro hl ((Kept.of_below (below_drewN (Below.refl _ _) nq)).trans hk)))
   clear ho hl hk
   go_wp2_with fail
   go_ret
   exact ⟨_,rfl,HV.out⟩
  ·obtain rfl:R=(P,none):=by rw [← HR.out]; unfold voteP; rw [if_neg (by decide),if_neg g]
   have e1:(P.ans != 2 ^ zs.length - 1)=true:=bne_iff_ne.2 g
   go_enter Tryz.func192,Tryz.ntmps192
   go_wp2_with fail
   go_quiet (fail)
   go_wp2_with fail
   go_ret
   exact ⟨_,rfl,FrB.zero _ _,HX.out.later (below_drewN (Below.refl _ _) _),Kept.of_below (below_drewN (Below.refl _ _) _)⟩
theorem ldack_any (A:Nat→Addr) (he:errW zs=0) (hE:Held3 w A) (h:LD w lb b cap id deal att zs P) :
  Calls Tryz.prog 195 #[.pointer (some ⟨lb,0,none⟩)] w fun e w'=>∃ v,e=.returned v∧FrB w.heap.size w' v (outL id deal att zs.length (ackP zs P).2)∧LD w' lb b cap id deal att zs (ackP zs P).1∧Kept (In1 lb) w w':=by
 obtain ⟨x,HX⟩:∃ x,Hid (enoughB zs P.ans=x):=⟨_,rfl⟩
 obtain ⟨R,HR⟩:∃ R,Hid (ackP zs P=R):=⟨_,rfl⟩
 rw [HR.out]
 have HL:=hid h
 have HE:=hid hE
 have HZ:=hid he
 have hn:=(errW_zero he).2.1
 clear h hE he
 go_enter Tryz.func195,Tryz.ntmps195
 go_wp2_with fail
 refine (ldenough_is A x HL.out HZ.out HE.out HX.out).mono ?_
 rintro e w1 ⟨rfl,hb⟩
 have HL1:=hid (HL.out.later hb)
 have HB:=hid hb
 clear hb
 have c27:=HL1.out.cells.2.2.2.2.2.2.1
 cases x with
 | false =>
  obtain rfl:R=(P,none):=by rw [← HR.out]; unfold ackP; rw [if_pos HX.out]
  go_wp2_with fail
  go_ret
  exact ⟨_,rfl,FrB.zero _ _,HL1.out,Kept.of_below HB.out⟩
 | true =>
  obtain rfl:R=decP P (afterI P.prep):=by rw [← HR.out]; unfold ackP; rw [if_neg (by rw [HX.out]; decide)]
  go_wp2_with (go_at_call 222; refine (tafter_any P.prep _).mono ?_; rintro e w2 ⟨rfl,rfl⟩)
  refine (lddecide_any (afterI P.prep) HL1.out hn).mono ?_
  rintro e w2 ⟨v,rfl,ho,hl,hk⟩
  have HV:=hid (And.intro (ho.mono HB.out.size) (And.intro hl ((Kept.of_below HB.out).trans hk)))
  clear ho hl hk
  go_wp2_with fail
  go_ret
  exact ⟨_,rfl,HV.out⟩
end
section
variable {w:World} {lb b cap id:Nat} {deal att:Int} {zs:List Int} {P:PL}
theorem LD.setTold (h:LD w lb b cap id deal att zs P) {i:Nat} (hi:i<7) (s:S3) :
  LD (((w.setCell ⟨lb,6+i * 3,none⟩ (.int .i64 s.p)).setCell ⟨lb,6+i * 3+1,none⟩ (.int .i64 s.r)).setCell ⟨lb,6+i * 3+2,none⟩ (.int .i64 s.a)) lb b cap id deal att zs { P with told:=toldS P.told i s }:=by
 obtain ⟨t0,t1,t2,t3,t4,t5,t6,e⟩:=seven h.pw.len
 have hP:P={ P with told:=[t0,t1,t2,t3,t4,t5,t6] }:=by rw [← e]
 have hw:PW zs.length P:=h.pw
 rw [hP] at h
 rw [e]
 have key:∀ L:List S3,L.length=7→PW zs.length { P with told:=L }:=fun L hL=>⟨hL,hw.lo,hw.hi⟩
 match i,hi with
 | 0,_=>exact ((h.set (Q:={ P with told:=[⟨s.p,t0.r,t0.a⟩,t1,t2,t3,t4,t5,t6] }) (key _ rfl) rfl).set (Q:={ P with told:=[⟨s.p,s.r,t0.a⟩,t1,t2,t3,t4,t5,t6] }) (key _ rfl) rfl).set (key _ rfl) rfl
 | 1,_=>exact ((h.set (Q:={ P with told:=[t0,⟨s.p,t1.r,t1.a⟩,t2,t3,t4,t5,t6] }) (key _ rfl) rfl).set (Q:={ P with told:=[t0,⟨s.p,s.r,t1.a⟩,t2,t3,t4,t5,t6] }) (key _ rfl) rfl).set (key _ rfl) rfl
 | 2,_=>exact ((h.set (Q:={ P with told:=[t0,t1,⟨s.p,t2.r,t2.a⟩,t3,t4,t5,t6] }) (key _ rfl) rfl).set (Q:={ P with told:=[t0,t1,⟨s.p,s.r,t2.a⟩,t3,t4,t5,t6] }) (key _ rfl) rfl).set (key _ rfl) rfl
 | 3,_=>exact ((h.set (Q:={ P with told:=[t0,t1,t2,⟨s.p,t3.r,t3.a⟩,t4,t5,t6] }) (key _ rfl) rfl).set (Q:={ P with told:=[t0,t1,t2,⟨s.p,s.r,t3.a⟩,t4,t5,t6] }) (key _ rfl) rfl).set (key _ rfl) rfl
 | 4,_=>exact ((h.set (Q:={ P with told:=[t0,t1,t2,t3,⟨s.p,t4.r,t4.a⟩,t5,t6] }) (key _ rfl) rfl).set (Q:={ P with told:=[t0,t1,t2,t3,⟨s.p,s.r,t4.a⟩,t5,t6] }) (key _ rfl) rfl).set (key _ rfl) rfl
 | 5,_=>exact ((h.set (Q:={ P with told:=[t0,t1,t2,t3,t4,⟨s.p,t5.r,t5.a⟩,t6] }) (key _ rfl) rfl).set (Q:={ P with told:=[t0,t1,t2,t3,t4,⟨s.p,s.r,t5.a⟩,t6] }) (key _ rfl) rfl).set (key _ rfl) rfl
 | 6,_=>exact ((h.set (Q:={ P with told:=[t0,t1,t2,t3,t4,t5,⟨s.p,t6.r,t6.a⟩] }) (key _ rfl) rfl).set (Q:={ P with told:=[t0,t1,t2,t3,t4,t5,⟨s.p,s.r,t6.a⟩] }) (key _ rfl) rfl).set (key _ rfl) rfl
theorem LD.told (h:LD w lb b cap id deal att zs P):SL w (some ⟨lb,6,none⟩) P.told:=by
 obtain ⟨t0,t1,t2,t3,t4,t5,t6,e⟩:=seven h.pw.len
 have hr:=h.row
 unfold pC at hr
 rw [e] at hr ⊢
 intro i hi
 refine ⟨lb,6,rfl,?_⟩
 match i,(show i<7 from hi) with
 | 0,_=>refine ⟨?_,?_,?_⟩ <;> rw [cell_of_row _ _ _ _ _ _ hr] <;> rfl
 | 1,_=>refine ⟨?_,?_,?_⟩ <;> rw [cell_of_row _ _ _ _ _ _ hr] <;> rfl
 | 2,_=>refine ⟨?_,?_,?_⟩ <;> rw [cell_of_row _ _ _ _ _ _ hr] <;> rfl
 | 3,_=>refine ⟨?_,?_,?_⟩ <;> rw [cell_of_row _ _ _ _ _ _ hr] <;> rfl
 | 4,_=>refine ⟨?_,?_,?_⟩ <;> rw [cell_of_row _ _ _ _ _ _ hr] <;> rfl
 | 5,_=>refine ⟨?_,?_,?_⟩ <;> rw [cell_of_row _ _ _ _ _ _ hr] <;> rfl
 | 6,_=>refine ⟨?_,?_,?_⟩ <;> rw [cell_of_row _ _ _ _ _ _ hr] <;> rfl
theorem LD.toldAt (h:LD w lb b cap id deal att zs P) {i:Nat} (hi:i<7):∃ x y z,w.cell? ⟨lb,6+i * 3,none⟩=some x∧w.cell? ⟨lb,6+i * 3+1,none⟩=some y∧w.cell? ⟨lb,6+i * 3+2,none⟩=some z:=by
 obtain ⟨b',off,e,h0,h1,h2⟩:=h.told i (by rw [h.pw.len]; exact hi)
 cases e
 exact ⟨_,_,_,h0,h1,h2⟩
theorem choose_is (a:Option Addr) (cap':Nat) (L:List S3) (m:Nat) (x:Int) (y:Bool) (hm:L.length=m) (hl:m≤200) (hL:SL w a L) (hx:chooseL L=(x,y)) :
  Calls Tryz.prog 221 #[.slice a m cap'] w fun e w'=>e=.returned (.tuple #[.int .i64 x,.bool y])∧Below w.heap.size w w':=by
 subst hm
 have:=choose_any a cap' L w hl hL
 rw [hx] at this
 exact this
theorem ldtell_any (A:Nat→Addr) (i:Nat) (s:S3) (hi:i<7) (he:errW zs=0) (hE:Held3 w A) (h:LD w lb b cap id deal att zs P) :
  Calls Tryz.prog 194 #[.pointer (some ⟨lb,0,none⟩),.int .i64 (i:Int),.agg #[.int .i64 s.p,.int .i64 s.r,.int .i64 s.a]] w fun e w'=>∃ v,e=.returned v∧FrB w.heap.size w' v (outL id deal att zs.length (tellP zs P i s).2)∧LD w' lb b cap id deal att zs (tellP zs P i s).1∧Kept (In1 lb) w w':=by
 obtain ⟨s1,s2,s3⟩:=s
 simp only
 obtain ⟨x,HX⟩:∃ x,Hid (enoughB zs P.ans=x):=⟨_,rfl⟩
 obtain ⟨R,HR⟩:∃ R,Hid (tellP zs P i ⟨s1,s2,s3⟩=R):=⟨_,rfl⟩
 rw [HR.out]
 obtain ⟨W,HW⟩:∃ W,Hid (w.alloc (.cells #[.int .i64 s1,.int .i64 s2,.int .i64 s3] 80)=W):=⟨_,rfl⟩
 have HB:Hid (Below w.heap.size w W):=by rw [← HW.out]; exact (Below.refl _ _).alloc (Nat.le_refl _) _
 have HRw:Hid (W.heap[w.heap.size]? = some (.cells #[.int .i64 s1,.int .i64 s2,.int .i64 s3] 80 (0,0))):=by rw [← HW.out]; exact heap_alloc_new w _
 have b0:W.cell? ⟨w.heap.size,0,none⟩=some (.int .i64 s1):=by rw [cell_of_row _ _ _ _ _ _ HRw.out]; rfl
 have b1:W.cell? ⟨w.heap.size,1,none⟩=some (.int .i64 s2):=by rw [cell_of_row _ _ _ _ _ _ HRw.out]; rfl
 have b2:W.cell? ⟨w.heap.size,2,none⟩=some (.int .i64 s3):=by rw [cell_of_row _ _ _ _ _ _ HRw.out]; rfl
 have HL:=hid (h.later HB.out)
 have HE:=hid (hE.later HB.out)
 have HZ:=hid he
 have hn:=(errW_zero he).2.1
 have hlb:lb<w.heap.size:=row_ltJ h.row
 obtain ⟨u0,u1,u2,c0,c1,c2⟩:=HL.out.toldAt hi
 have z0:=HL.out.fz (6+i * 3)
 have z1:=HL.out.fz (6+i * 3+1)
 have z2:=HL.out.fz (6+i * 3+2)
 have hW:=HW.out
 have HL2:=hid ((HL.out.setTold hi ⟨s1,s2,s3⟩).later (Below.refl _ _).drew)
 have HK2:Hid (Kept (In1 lb) W (((W.setCell ⟨lb,6+i * 3,none⟩ (.int .i64 s1)).setCell ⟨lb,6+i * 3+1,none⟩ (.int .i64 s2)).setCell ⟨lb,6+i * 3+2,none⟩ (.int .i64 s3)).drew):=((((Kept.refl _ _).set1 _ _).set1 _ _).set1 _ _).drew
 have HE2:=hid (HE.out.kept HK2.out (fun k hk=>by rw [show k=lb from hk]; exact h.glo))
 have HX2:Hid (enoughB zs ({ P with told:=toldS P.told i ⟨s1,s2,s3⟩ }:PL).ans=x):=HX.out
 clear h hE he
 have hi2:(i:Int)<7:=by omega
 go_enter Tryz.func194,Tryz.ntmps194
 go_wp2_with fail
 go_region
 all_goals go_wp2_with fail
 refine (ldenough_is A x HL2.out HZ.out HE2.out HX2.out).mono ?_
 rintro e w1 ⟨rfl,hb⟩
 have HL3:=hid (HL2.out.later hb)
 have HK3:=hid (((Kept.of_below (S:=In1 lb) HB.out).trans HK2.out).trans (Kept.of_below hb))
 clear hb b0 b1 b2 c0 c1 c2 z0 z1 z2 u0 u1 u2
 cases x with
 | false =>
  obtain rfl:R=({ P with told:=toldS P.told i ⟨s1,s2,s3⟩ },none):=by rw [← HR.out]; unfold tellP; rw [if_pos HX.out]
  go_wp2_with fail
  go_ret
  exact ⟨_,rfl,FrB.zero _ _,HL3.out,HK3.out⟩
 | true =>
  obtain ⟨⟨cx,cy⟩,HC⟩:∃ z,Hid (chooseL (toldS P.told i ⟨s1,s2,s3⟩)=z):=⟨_,rfl⟩
  have HSL:=hid HL3.out.told
  have hlb3:lb<w1.heap.size:=row_ltJ HL3.out.row
  go_wp2_with fail
  refine (choose_is (some ⟨lb,6,none⟩) _ (toldS P.told i ⟨s1,s2,s3⟩) 7 cx cy HL3.out.pw.len (by decide) HSL.out HC.out).mono ?_
  rintro e w2 ⟨rfl,hb⟩
  have HL4:=hid (HL3.out.later hb)
  have HK4:=hid (HK3.out.trans (Kept.of_below hb))
  clear hb
  cases cy with
  | true =>
   obtain rfl:R=decP { P with told:=toldS P.told i ⟨s1,s2,s3⟩ } cx:=by rw [← HR.out]; unfold tellP; rw [if_neg (by rw [HX.out]; decide),HC.out,if_pos rfl]
   go_wp2_with fail
   refine (lddecide_any cx HL4.out hn).mono ?_
   rintro e w3 ⟨v,rfl,ho,hl,hk⟩
   have HV:=hid (And.intro (ho.mono HK4.out.size) (And.intro hl (HK4.out.trans hk)))
   clear ho hl hk
   go_wp2_with fail
   go_ret
   exact ⟨_,rfl,HV.out⟩
  | false =>
   obtain rfl:R=preP { P with told:=toldS P.told i ⟨s1,s2,s3⟩ } cx:=by rw [← HR.out]; unfold tellP; rw [if_neg (by rw [HX.out]; decide),HC.out,if_neg (by simp)]
   go_wp2_with fail
   refine (ldprepare_any cx HL4.out hn).mono ?_
   rintro e w3 ⟨v,rfl,ho,hl,hk⟩
   have HV:=hid (And.intro (ho.mono HK4.out.size) (And.intro hl (HK4.out.trans hk)))
   clear ho hl hk
   go_wp2_with fail
   go_ret
   exact ⟨_,rfl,HV.out⟩
end
section
variable {w:World} {lb b cap id:Nat} {deal att:Int} {zs:List Int} {P:PL}
theorem ldtakes_is (f t d k a:Int) (y:Bool) (p1 p2 p3:Int) (x:Bool) (hn:zs.length≤7) (hs:P.stt<4) (h:LD w lb b cap id deal att zs P) (hx:takesB zs.length id deal att P ⟨f,t,d,k,a,y,p1,p2,p3⟩=x) :
  Calls Tryz.prog 191 #[.pointer (some ⟨lb,0,none⟩),frV f t d k a y p1 p2 p3] w fun e w'=>e=.returned (.bool x)∧Below w.heap.size w w':=by
 subst hx; exact ldtakes_any f t d k a y p1 p2 p3 hn hs h
structure HI (w W:World) (A:Nat→Addr) (lb b cap id:Nat) (deal att:Int) (zs:List Int) (P:PL) (f t d k a:Int) (y:Bool) (p1 p2 p3:Int):Prop where
 ld:LD W lb b cap id deal att zs P
 fr:W.heap[w.heap.size]? = some (.cells #[.int .i64 f,.int .i64 t,.int .i64 d,.int .i64 k,.int .i64 a,.bool y,.int .i64 p1,.int .i64 p2,.int .i64 p3] 125 (0,0))
 kp:Kept (In1 lb) w W
 er:Held3 W A
theorem HI.go {W V:World} {A:Nat→Addr} {Q:PL} {f t d k a:Int} {y:Bool} {p1 p2 p3:Int} (h:HI w W A lb b cap id deal att zs P f t d k a y p1 p2 p3) (hlb:lb<w.heap.size) (hl:LD V lb b cap id deal att zs Q) (hk:Kept (In1 lb) W V):HI w V A lb b cap id deal att zs Q f t d k a y p1 p2 p3 :=
 ⟨hl,hk.row h.fr (fun e=>by have:w.heap.size=lb:=e; omega),h.kp.trans hk,h.er.kept hk (fun i hi=>by rw [show i=lb from hi]; exact hl.glo)⟩
theorem HI.later {W V:World} {A:Nat→Addr} {f t d k a:Int} {y:Bool} {p1 p2 p3:Int} (h:HI w W A lb b cap id deal att zs P f t d k a y p1 p2 p3) (hlb:lb<w.heap.size) (hb:Below W.heap.size W V):HI w V A lb b cap id deal att zs P f t d k a y p1 p2 p3 :=
 h.go hlb (h.ld.later hb) (Kept.of_below hb)
theorem ldhear_any (A:Nat→Addr) (f t d k a:Int) (y:Bool) (p1 p2 p3:Int) (he:errW zs=0) (hs:P.stt<4) (hE:Held3 w A) (h:LD w lb b cap id deal att zs P) :
  Calls Tryz.prog 166 #[.pointer (some ⟨lb,0,none⟩),frV f t d k a y p1 p2 p3] w fun e w'=>∃ v,e=.returned v∧FrB w.heap.size w' v (outL id deal att zs.length (phear zs id deal att P ⟨f,t,d,k,a,y,p1,p2,p3⟩).2)∧LD w' lb b cap id deal att zs (phear zs id deal att P ⟨f,t,d,k,a,y,p1,p2,p3⟩).1∧Kept (In1 lb) w w':=by
 obtain ⟨R,HR⟩:∃ R,Hid (phear zs id deal att P ⟨f,t,d,k,a,y,p1,p2,p3⟩=R):=⟨_,rfl⟩
 rw [HR.out]
 obtain ⟨x,HT⟩:∃ x,Hid (takesB zs.length id deal att P ⟨f,t,d,k,a,y,p1,p2,p3⟩=x):=⟨_,rfl⟩
 obtain ⟨W,HW⟩:∃ W,Hid (w.alloc (.cells #[.int .i64 f,.int .i64 t,.int .i64 d,.int .i64 k,.int .i64 a,.bool y,.int .i64 p1,.int .i64 p2,.int .i64 p3] 125)=W):=⟨_,rfl⟩
 have HB:Hid (Below w.heap.size w W):=by rw [← HW.out]; exact (Below.refl _ _).alloc (Nat.le_refl _) _
 have hlbw:lb<w.heap.size:=row_ltJ h.row
 have H1:Hid (HI w W A lb b cap id deal att zs P f t d k a y p1 p2 p3):=⟨h.later HB.out,by rw [← HW.out]; exact heap_alloc_new w _,Kept.of_below HB.out,hE.later HB.out⟩
 have HZ:=hid he
 have HST:=hid hs
 have hn:=(errW_zero he).2.1
 obtain ⟨b0,b1,b2,b3,b4,b5,b6,b7,b8⟩:=nine H1.out.fr
 have hW:=HW.out
 clear h hE he hs
 go_enter Tryz.func166,Tryz.ntmps166
 go_wp2_with fail
 refine (ldtakes_is f t d k a y p1 p2 p3 x hn HST.out H1.out.ld HT.out).mono ?_
 rintro e w1 ⟨rfl,hb⟩
 have H2:=hid (H1.out.later hlbw hb)
 clear hb b0 b1 b2 b3 b4 b5 b6 b7 b8 H1 HB HW hW
 cases x with
 | false =>
  obtain rfl:R=(P,none):=by rw [← HR.out]; unfold phear; rw [if_neg (by rw [HT.out]; decide)]
  go_wp2_with fail
  go_ret
  exact ⟨_,rfl,FrB.zero _ _,H2.out.ld,H2.out.kp⟩
 | true =>
  obtain ⟨-,-,⟨q0,q1⟩,-⟩:=takesB_in HT.out
  simp only at q0 q1
  obtain ⟨m,rfl⟩:=Int.eq_ofNat_of_zero_le q0
  have hm:m<zs.length:=by omega
  have hm7:m<7:=by omega
  obtain ⟨b0,b1,b2,b3,b4,b5,b6,b7,b8⟩:=nine H2.out.fr
  have c5:=H2.out.ld.cells.2.2.2.2.2.1
  have z5:=H2.out.ld.fz 5
  have hbd:=ansS_bd hn H2.out.ld.pw.lo H2.out.ld.pw.hi hm
  have HLn:=hid (H2.out.ld.setAns (ansS P.ans m) hbd.1 hbd.2)
  have hlb1:lb<w1.heap.size:=row_ltJ H2.out.ld.row
  have hp:=(pow_le7 (n:=m) (by omega)).1
  have hp2:=(pow_le7 (n:=m) (by omega)).2
  unfold ansS at HLn
  have H3:=hid (H2.out.go hlbw (HLn.out.later (Below.refl _ _).drew) ((Kept.refl _ _).set1 _ _).drew)
  have HP:Hid (phear zs id deal att P ⟨(m:Int),t,d,k,a,y,p1,p2,p3⟩=takenP zs P ⟨(m:Int),t,d,k,a,y,p1,p2,p3⟩):=by unfold Hid phear; rw [if_pos HT.out]
  have HN:Hid (noteP P ⟨(m:Int),t,d,k,a,y,p1,p2,p3⟩={ P with ans:=bits .or .i64 P.ans (2 ^ m) }):=rfl
  by_cases g2:k=2
  ·subst g2
   obtain rfl:R=voteP zs.length { P with ans:=bits .or .i64 P.ans (2 ^ m) } y:=by rw [← HR.out,HP.out]; unfold takenP; rw [if_pos rfl]; rfl
   go_wp2_with fail
   go_region
   all_goals go_wp2_with fail
   refine (ldvote_any y hn H3.out.ld).mono ?_
   rintro e w2 ⟨v,rfl,ho,hl,hk⟩
   have HV:=hid (And.intro (ho.mono H3.out.kp.size) (And.intro hl (H3.out.kp.trans hk)))
   clear ho hl hk
   go_wp2_with fail
   go_ret
   exact ⟨_,rfl,HV.out⟩
  ·have e2:(k == 2)=false:=beq_eq_false_iff_ne.2 g2
   go_wp2_with fail
   go_region
   all_goals go_wp2_with fail
   refine (ldsee_any p2 H3.out.ld).mono ?_
   rintro e w2 ⟨rfl,hl,hk⟩
   have H4:=hid (H3.out.go hlbw hl hk)
   clear hl hk b0 b1 b2 b3 b4 b5 b6 b7 b8 c5 z5
   obtain ⟨b0,b1,b2,b3,b4,b5,b6,b7,b8⟩:=nine H4.out.fr
   have z4:=H4.out.ld.fz 4
   have c4:=H4.out.ld.cells.2.2.2.2.1
   have hlb2:lb<w2.heap.size:=row_ltJ H4.out.ld.row
   cases y with
   | false =>
    obtain rfl:R=({ seeP { P with ans:=bits .or .i64 P.ans (2 ^ m) } p2 with stt:=3 },none):=by rw [← HR.out,HP.out]; unfold takenP; rw [if_neg (by exact g2),if_pos rfl]; rfl
    have HQ:=hid (H4.out.go hlbw (H4.out.ld.setSt 3) ((Kept.refl _ _).set1 _ _))
    rw [stP3] at HQ
    go_wp2_with fail
    go_ret
    exact ⟨_,rfl,FrB.zero _ _,HQ.out.ld,HQ.out.kp⟩
   | true =>
    by_cases g4:k=4
    ·subst g4
     obtain rfl:R=tellP zs (seeP { P with ans:=bits .or .i64 P.ans (2 ^ m) } p2) m ⟨p1,p2,p3⟩:=by rw [← HR.out,HP.out]; unfold takenP; rw [if_neg (by simp),if_neg (by simp),if_pos rfl]; rfl
     go_wp2_with fail
     refine (ldtell_any A m ⟨p1,p2,p3⟩ hm7 HZ.out H4.out.er H4.out.ld).mono ?_
     rintro e w3 ⟨v,rfl,ho,hl,hk⟩
     have HV:=hid (And.intro (ho.mono H4.out.kp.size) (And.intro hl (H4.out.kp.trans hk)))
     clear ho hl hk
     go_wp2_with fail
     go_ret
     exact ⟨_,rfl,HV.out⟩
    ·have e4:(k == 4)=false:=beq_eq_false_iff_ne.2 g4
     obtain rfl:R=ackP zs (seeP { P with ans:=bits .or .i64 P.ans (2 ^ m) } p2):=by rw [← HR.out,HP.out]; unfold takenP; rw [if_neg (by exact g2),if_neg (by simp),if_neg (by exact g4)]; rfl
     go_wp2_with fail
     refine (ldack_any A HZ.out H4.out.er H4.out.ld).mono ?_
     rintro e w3 ⟨v,rfl,ho,hl,hk⟩
     have HV:=hid (And.intro (ho.mono H4.out.kp.size) (And.intro hl (H4.out.kp.trans hk)))
     clear ho hl hk
     go_wp2_with fail
     go_ret
     exact ⟨_,rfl,HV.out⟩
end
theorem sl_nil (b off n cap:Nat) (w:World):(binOp .eql 34 (.slice (some ⟨b,off,none⟩) n cap) (.slice none 0 0)).run Tryz.prog w=.ok (.bool false) w:=by
 rfl
theorem clone_any (v:Value) (zs:List Int) (w:World) (hv:IsSl w v zs) (h1:1≤zs.length) (hl:zs.length≤30) :
  Calls Tryz.prog 154 #[v] w fun e w'=>∃ v',e=.returned v'∧w'.ownsRow w.heap.size 3 1 v' zs.length (zs.map (Value.int .i64))∧Below w.heap.size w w':=by
 obtain ⟨i0,hi,hz0,hz1,hz2⟩:=info_parts Tryz.infoInt
 obtain ⟨a,cap,rfl,hm,-,hc⟩:=hv
 have HM:=hid hm
 obtain ⟨b,off,rfl,hcc⟩:=hc (by omega)
 have HC:Hid (∀ o:Obj,∀ j u,(zs.map (Value.int .i64))[j]? = some u→(w.alloc o).cell? ((⟨b,off,none⟩:Addr).add j)=some u):=by
  intro o j u hj
  rw [List.getElem?_map] at hj
  rcases Nat.lt_or_ge j zs.length with h|h
  ·rw [List.getElem?_eq_getElem h] at hj
   simp at hj
   subst hj
   have:=hcc j h
   rw [getD_lt zs j h] at this
   rw [addr_add]; exact cell_alloc _ this
  ·rw [List.getElem?_eq_none h] at hj; cases hj
 clear hc hcc
 have HO:Hid (∀ u∈zs.map (Value.int .i64),u.oneCell'=true):=by
  intro u hu
  obtain ⟨n,-,rfl⟩:=List.mem_map.1 hu
  rfl
 have HOw:Hid ((w.alloc (.cells #[] 3)).ownsRow w.heap.size 3 1 (.slice (some ⟨w.heap.size,0,none⟩) 0 0) 0 []):=World.ownsRow_lit w #[] 0 (Nat.le_refl _) (by unfold maxLen; omega) rfl
 have hnil:=sl_nil b off zs.length cap
 go_enter Tryz.func154,Tryz.ntmps154
 go_wp2_with (at_builtin; refine wpList_append_own _ rfl _ _ 34 rfl w.heap.size 3 i0 (.int .i64 0) 1 8 Tryz.underlying34 hi hz0 hz1 hz2 rfl (by decide) _ 0 [] rfl HOw.out ⟨b,off,none⟩ zs.length cap (zs.map (Value.int .i64)) rfl (by simp) (HC.out _) HO.out (by have:=HM.out; omega) (by omega) (by simp) ?_)
 intro v' w1 hown hgrow _
 have ho2:w1.ownsRow w.heap.size 3 1 v' zs.length (zs.map (Value.int .i64)):=by simpa using hown
 clear hown
 have HB:Hid (Below w.heap.size w w1):=((Below.refl _ _).alloc (Nat.le_refl _) (.cells #[] 3)).grown hgrow (by simp) (fun j hj=>(HOw.out.lt j hj).1)
 clear hgrow
 go_wp2_with fail
 go_ret
 exact ⟨_,rfl,ho2,HB.out⟩
def P0:PL:=⟨0,0,[⟨0,0,0⟩,⟨0,0,0⟩,⟨0,0,0⟩,⟨0,0,0⟩,⟨0,0,0⟩,⟨0,0,0⟩,⟨0,0,0⟩],0,0,false⟩
theorem P0_w (n:Nat):PW n P0:=⟨rfl,Int.le_refl _,Int.pow_pos (by decide)⟩
theorem check_ok (A:Nat→Addr) (v:Value) (zs:List Int) (w:World) (hv:IsSl w v zs) (hE:Held3 w A) (he:errW zs=0) :
  Calls Tryz.prog 153 #[v] w fun e w'=>e=.returned .nilIface∧w'=w:=by
 have:=check_any A v zs w hv hE
 rw [he] at this
 exact this
theorem ldbegin_ok (A:Nat→Addr) (v:Value) (zs:List Int) (id:Nat) (deal att:Int) (w:World) (hv:IsSl w v zs) (hE:Held3 w A) (he:errW zs=0) (hid':id<zs.length) (h0:0≤deal) (h1:deal<6) :
  Calls Tryz.prog 157 #[.int .i64 (id:Int),.int .i64 deal,v,.int .i64 att] w fun e w'=>∃ lb b cap,e=.returned (.tuple #[.pointer (some ⟨lb,0,none⟩),.nilIface])∧LD w' lb b cap id deal att zs P0∧Below w.heap.size w w'∧w.heap.size≤b:=by
 have HS:=hid hv
 have HE:=hid hE
 have HZ:=hid he
 obtain ⟨q1,q2,-,-⟩:=errW_zero he
 have hlen:(id:Int)<(zs.length:Int):=by omega
 have g1:¬ (zs.length:Int)≤(id:Int):=by omega
 obtain ⟨a,cap0,rfl,-,-,-⟩:=hv
 clear hE he
 go_enter Tryz.func157,Tryz.ntmps157
 go_wp2_with (go_at_call 153; refine (check_ok A _ zs _ HS.out HE.out HZ.out).mono ?_; rintro e w1 ⟨rfl,rfl⟩)
 refine (clone_any _ zs _ HS.out q1 (by omega)).mono ?_
 rintro e w1 ⟨v',rfl,ho,hb⟩
 rcases ho.2 with ⟨-,hz⟩|⟨g,cap,cur,rfl,hg,hgg,hle,hcap,hsz,htk⟩
 ·omega
 have HOw:=hid ho
 have HB:=hid hb
 clear ho hb hgg hle hcap hsz htk
 go_wp2_with fail
 go_ret2
 have hg2:g<w1.heap.size:=by
  rcases HOw.out.2 with ⟨hx,-⟩|⟨g',cap',cur',hx,-,hgg',-⟩
  ·cases hx
  ·cases hx
   exact row_ltJ hgg'
 refine ⟨w1.heap.size,g,cap,rfl,⟨heap_alloc_new w1 _,fun i hi=>cell_alloc _ ?_,hg2,P0_w _,fun j=>Nat.lt_of_lt_of_le (gW_lt HE.out j) HB.out.size⟩,HB.out.alloc HB.out.size _,hg⟩
 have:=HOw.out.cellAt i (by omega)
 rw [Nat.zero_add,this]
 simp [hi]
theorem ldBegin_ok (A:Nat→Addr) (v:Value) (zs:List Int) (id:Nat) (deal:Int) (w:World) (hv:IsSl w v zs) (hE:Held3 w A) (he:errW zs=0) (hid':id<zs.length) (h0:0≤deal) (h1:deal<6) :
  Calls Tryz.prog 103 #[.int .i64 (id:Int),.int .i64 deal,v] w fun e w'=>∃ lb b cap,e=.returned (.tuple #[.pointer (some ⟨lb,0,none⟩),.nilIface])∧LD w' lb b cap id deal 0 zs P0∧Below w.heap.size w w'∧w.heap.size≤b:=by
 have HC:=hid (ldbegin_ok A v zs id deal 0 w hv hE he hid' h0 h1)
 obtain ⟨a,cap0,rfl,-,-,-⟩:=hv
 clear hE he
 go_enter Tryz.func103,Tryz.ntmps103
 go_wp2_with fail
 refine HC.out.mono ?_
 rintro e w1 ⟨lb,b,cap,rfl,hl,hb,hg⟩
 have HL:=hid (And.intro hl (And.intro hb hg))
 clear hl hb hg
 go_wp2_with fail
 go_ret2
 exact ⟨lb,b,cap,rfl,HL.out⟩
theorem ldTry_ok (A:Nat→Addr) (v:Value) (zs:List Int) (id:Nat) (deal att:Int) (w:World) (hv:IsSl w v zs) (hE:Held3 w A) (he:errW zs=0) (hid':id<zs.length) (h0:0≤deal) (h1:deal<6) (a0:1≤att) (a1:att≤1048576) :
  Calls Tryz.prog 164 #[.int .i64 (id:Int),.int .i64 deal,v,.int .i64 att] w fun e w'=>∃ lb b cap,e=.returned (.tuple #[.pointer (some ⟨lb,0,none⟩),.nilIface])∧LD w' lb b cap id deal att zs P0∧Below w.heap.size w w'∧w.heap.size≤b:=by
 have HC:=hid (ldbegin_ok A v zs id deal att w hv hE he hid' h0 h1)
 obtain ⟨a,cap0,rfl,-,-,-⟩:=hv
 have g1:¬ att<1:=by omega
 have g2:¬ 1048576<att:=by omega
 clear hE he
 go_enter Tryz.func164,Tryz.ntmps164
 go_wp2_with fail
 refine HC.out.mono ?_
 rintro e w1 ⟨lb,b,cap,rfl,hl,hb,hg⟩
 have HL:=hid (And.intro hl (And.intro hb hg))
 clear hl hb hg
 go_wp2_with fail
 go_ret2
 exact ⟨lb,b,cap,rfl,HL.out⟩
theorem ldState_any {w:World} {lb b cap id:Nat} {deal att:Int} {zs:List Int} {P:PL} (h:LD w lb b cap id deal att zs P) :
  Calls Tryz.prog 133 #[.pointer (some ⟨lb,0,none⟩)] w fun e w'=>e=.returned (.string (stP P.stt))∧w'=w:=by
 have c4:=h.cells.2.2.2.2.1
 clear h
 go_enter Tryz.func133,Tryz.ntmps133
 go_wp2_with fail
 go_ret
 exact ⟨rfl,rfl⟩
theorem ldSeen_any {w:World} {lb b cap id:Nat} {deal att:Int} {zs:List Int} {P:PL} (h:LD w lb b cap id deal att zs P) :
  Calls Tryz.prog 189 #[.pointer (some ⟨lb,0,none⟩)] w fun e w'=>e=.returned (.int .i64 P.seen)∧w'=w:=by
 have c28:=h.cells.2.2.2.2.2.2.2.1
 clear h
 go_enter Tryz.func189,Tryz.ntmps189
 go_wp2_with fail
 go_ret
 exact ⟨rfl,rfl⟩
theorem ldStart0_any {w:World} {lb b cap id:Nat} {deal:Int} {zs:List Int} {P:PL} (hn:zs.length≤7) (h:LD w lb b cap id deal 0 zs P) :
  Calls Tryz.prog 105 #[.pointer (some ⟨lb,0,none⟩)] w fun e w'=>∃ v,e=.returned v∧FrB w.heap.size w' v (toL id deal 1 0 0 zs.length)∧Below w.heap.size w w':=by
 have c2:=h.cells.2.2.1
 have H:=hid h
 clear h
 go_enter Tryz.func105,Tryz.ntmps105
 go_wp2_with fail
 refine (ldtoAll_any lb b cap id deal 0 zs P 1 0 w H.out hn).mono ?_
 rintro e w1 ⟨v,rfl,ho,hb⟩
 have HV:=hid (And.intro ho hb)
 clear ho hb
 go_wp2_with fail
 go_ret
 exact ⟨_,rfl,HV.out⟩
end Go.Proofs.YtaehdgemkafinaaGreatDoor
