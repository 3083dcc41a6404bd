/-
  On the way to WStepsProof: X8 X9 XY.
-/
import Derived.Test.YtadhpkopkkjmfaaGreatDoorBz62
import Derived.Test.YtadhpkopkkjmfaaGreatDoorBz69
set_option maxHeartbeats 8000000
set_option maxRecDepth 100000
namespace Go.Proofs.YtadhpkopkkjmfaaGreatDoor
open Go.RowKit
theorem sameFrames_yes (v1 v2:Value) (L:List F9) (w:World) (h1:IsFr w v1 L) (h2:IsFr w v2 L) (hl:L.length≤1000000000000) :
  Calls Tryz.prog 46 #[v1,v2] w fun e w'=>e=.returned (.bool true)∧Below w.heap.size w w':=by
 obtain ⟨a1,c1,rfl,f1⟩:=h1
 obtain ⟨a2,c2,rfl,f2⟩:=h2
 have H1:=hid f1
 have H2:=hid f2
 obtain ⟨n,hn⟩:∃ n,Hid (L.length=n):=⟨_,rfl⟩
 have hne:((L.length:Int) != (L.length:Int))=false:=by simp
 rw [hn.out] at hne hl ⊢
 clear f1 f2
 go_enter Tryz.func46,Tryz.ntmps46
 go_wp2_with fail
 go_loopw [5] (fun i wr=>∃ k:Nat,k≤n∧i=.int .i64 (k:Int)∧Below w.heap.size w wr) (fun i _=>n - (intOf i).toNat)
 case atStart=>exact ⟨0,Nat.zero_le _,rfl,Below.refl _ _⟩
 case round =>
  obtain ⟨k,hk,rfl,hb⟩:=hrel
  have HB:=hid hb
  by_cases hlt:k<n
  ·have hkL:k<L.length:=by rw [hn.out]; exact hlt
   obtain ⟨b1,o1,rfl,q1⟩:=(H1.out.later hb) k hkL
   obtain ⟨b2,o2,rfl,q2⟩:=(H2.out.later hb) k hkL
   obtain ⟨x,HX⟩:∃ x,Hid (L[k]'hkL=x):=⟨_,rfl⟩
   rw [HX.out] at q1 q2
   obtain ⟨s0,s1,s2,s3,s4,s5,s6,s7,s8⟩:=nineO q1
   obtain ⟨t0,t1,t2,t3,t4,t5,t6,t7,t8⟩:=nineO q2
   have hq:=fr_neq x.f x.t x.d x.k x.a x.y x.ph x.pr x.pa
   have hk0:(0:Int)≤(k:Int):=by omega
   have hk1:(k:Int)<(n:Int):=by omega
   clear hb q1 q2
   go_wp2_with fail
   go_quiet (fail)
   rename Nat=>nq
   go_wp2_with fail
   go_roundw
   case rel=>exact ⟨k+1,by omega,by go_num,below_drewN HB.out nq⟩
   case measure=>simp [intOf]; omega
  ·obtain rfl:k=n:=by omega
   clear hb
   go_wp2_with fail
   go_ret
   exact ⟨rfl,HB.out⟩
theorem stP_B {n:Nat} (h:n<4):stP n=stB n:=by
 have:n=0 ∨ n=1 ∨ n=2 ∨ n=3:=by omega
 rcases this with rfl|rfl|rfl|rfl <;> rfl
section
variable {w0 v0 w w1 w':World} {C D:Nat→Nat} {X:XB} {Y:YB} {aw:Option Addr} {i n cap m m':Nat} {zs:List Int} {V:PX} {A:Nat→Addr}
theorem asWorld_any (h:WD w0 w C X zs V m) (k:RW v0 w D Y aw cap zs V m') (hE:Held9 w0 A) (hm:m≤100000000) :
  Calls Tryz.prog 42 #[.pointer (some ⟨X.xb,0,none⟩),.pointer (some ⟨Y.xb,0,none⟩)] w fun e w'=>e=.returned (.bool true)∧Below w.heap.size w w':=by
 have HW:=hid h
 have HR:=hid k
 have HE:=hid hE
 have HEw:=hid (h.held hE)
 have n7:=h.n7
 obtain ⟨ae,ce,hev,-,-,hel⟩:=own_el k.evs
 obtain ⟨af,cf,hfv,hfl⟩:=IsFr.owned k.fly
 obtain ⟨-,c1,-,c3,c4⟩:=k.cells
 rw [hev] at c4
 rw [hfv] at c3
 have HEL:=hid hel
 have HFL:=hid hfl
 have hle:V.evs.length≤500:=h.inv.ev
 have hlf:V.fly.length≤1000000000000:=by have:=h.inv.fl; omega
 have HEv:Hid (∀ W',Below w.heap.size w W'→Calls Tryz.prog 24 #[.pointer (some ⟨X.xb,0,none⟩)] W' fun e w'=>∃ a1 cp1,e=.returned (.slice a1 V.evs.length cp1)∧EL w' a1 V.evs∧Below w.heap.size w w'):=fun W' hb=>by
  refine (events_any (HW.out.later hb)).mono ?_
  rintro e w1 ⟨v',rfl,ho,hb1⟩
  obtain ⟨a1,cp1,rfl,-,-,he⟩:=own_el ho
  exact ⟨a1,cp1,rfl,he,hb.trans (hb1.mono hb.size)⟩
 have HFy:Hid (∀ W',Below w.heap.size w W'→Calls Tryz.prog 19 #[.pointer (some ⟨X.xb,0,none⟩)] W' fun e w'=>∃ a1 cp1,e=.returned (.slice a1 V.fly.length cp1)∧FL w' a1 V.fly∧Below w.heap.size w w'):=fun W' hb=>by
  refine (flying_any (HW.out.later hb) hm).mono ?_
  rintro e w1 ⟨v',rfl,ho,hb1⟩
  obtain ⟨a1,cp1,rfl,he⟩:=IsFr.owned ho
  exact ⟨a1,cp1,rfl,he,hb.trans (hb1.mono hb.size)⟩
 have HSe:Hid (∀ W' a1 cp1,Below w.heap.size w W'→EL W' a1 V.evs→Calls Tryz.prog 47 #[.slice a1 V.evs.length cp1,.slice ae V.evs.length ce] W' fun e w'=>e=.returned (.bool true)∧Below w.heap.size w w'):=fun W' a1 cp1 hb he=>by
  refine (sameEvents_yes a1 ae cp1 ce V.evs W' he (HEL.out.later hb) (by omega)).mono ?_
  rintro e w1 ⟨rfl,hb1⟩
  exact ⟨rfl,hb.trans (hb1.mono hb.size)⟩
 have HSf:Hid (∀ W' a1 cp1,Below w.heap.size w W'→FL W' a1 V.fly→Calls Tryz.prog 46 #[.slice a1 V.fly.length cp1,.slice af V.fly.length cf] W' fun e w'=>e=.returned (.bool true)∧Below w.heap.size w w'):=fun W' a1 cp1 hb he=>by
  refine (sameFrames_yes _ _ V.fly W' ⟨a1,cp1,rfl,he⟩ ⟨af,cf,rfl,HFL.out.later hb⟩ hlf).mono ?_
  rintro e w1 ⟨rfl,hb1⟩
  exact ⟨rfl,hb.trans (hb1.mono hb.size)⟩
 obtain ⟨le,hle2⟩:∃ le,Hid (V.evs.length=le):=⟨_,rfl⟩
 obtain ⟨lf,hlf2⟩:∃ lf,Hid (V.fly.length=lf):=⟨_,rfl⟩
 obtain ⟨z,hz⟩:∃ z,Hid (zs.length=z):=⟨_,rfl⟩
 rw [hle2.out] at HEv HSe c4
 rw [hlf2.out] at HFy HSf c3
 rw [hz.out] at c1 n7
 clear h k hE hel hfl hle hlf hev hfv
 go_enter Tryz.func42,Tryz.ntmps42
 go_wp2_with fail
 go_region_held3 (fun V=>V.cell? ⟨Y.xb,4,none⟩=some (.slice ae le ce)∧V.cell? ⟨Y.xb,3,none⟩=some (.slice af lf cf)) (go_keep) (first|(go_at_call 24; (with_reducible refine (HEv.out _ (Below.refl _ _).drew).mono ?_); rintro e w1 ⟨a1,cp1,rfl,he1,hb1⟩; have p1:=cell_later hb1 c4; have p2:=cell_later hb1 c3; have HS1:=hid (HSe.out w1 a1 cp1 hb1 he1); have HB1:=hid hb1; clear he1 hb1)|(go_at_call 47; (with_reducible refine HS1.out.mono ?_); rintro e w2 ⟨rfl,hb2⟩; have p3:=cell_later hb2 c4; have p4:=cell_later hb2 c3; have HB2:=hid hb2; clear hb2)|(go_at_call 19; (with_reducible refine (HFy.out _ HB2.out).mono ?_); rintro e w3 ⟨a3,cp3,rfl,he3,hb3⟩; have p5:=cell_later hb3 c4; have p6:=cell_later hb3 c3; have HS3:=hid (HSf.out w3 a3 cp3 hb3 he3); clear he3 hb3)|(go_at_call 46; (with_reducible refine HS3.out.mono ?_); rintro e w4 ⟨rfl,hb4⟩; have p7:=cell_later hb4 c4; have p8:=cell_later hb4 c3; have HB4:=hid hb4; clear hb4))
 go_wp2_with fail
 clear p1 p2 p3 p4 p5 p6 p7 p8
 go_loopw [5] (fun v wr=>∃ k:Nat,k≤z∧v=.int .i64 (k:Int)∧Below w.heap.size w wr) (fun v _=>z - (intOf v).toNat)
 case atStart=>exact ⟨0,Nat.zero_le _,rfl,HB4.out⟩
 case round =>
  obtain ⟨k,hk,rfl,hb⟩:=hrel
  rename_i wr
  have HB:=hid hb
  have HWr:=hid (HW.out.later hb)
  have HRr:=hid (HR.out.later hb)
  have c1r:=cell_later hb c1
  clear hb
  by_cases hlt:k<z
  ·have hkz:k<zs.length:=by rw [hz.out]; exact hlt
   obtain ⟨u,HU⟩:∃ u,Hid (upN (V.nd k)=u):=⟨_,rfl⟩
   have HIs:=hid (is_ok k HWr.out hkz)
   rw [HU.out] at HIs
   have e1:=HRr.out.ns k hkz
   obtain ⟨d0,-,-,-⟩:=(HRr.out.nds k hkz).cells
   unfold rsV at d0
   rw [HU.out] at d0
   have hkI:(k:Int)<(z:Int):=by omega
   have HKz:=hid hkz
   clear hkz
   go_wp2_with fail
   refine HIs.out.mono ?_
   rintro e w5 ⟨rfl,hx5⟩
   subst w5
   cases u
   all_goals first
    | rw [if_pos rfl] at d0
    | rw [if_neg (by decide)] at d0
   all_goals
    go_wp2_with fail
    go_loopw [8] (fun v wx=>∃ q:Nat,q≤6∧v=.int .i64 (q:Int)∧Below w.heap.size w wx) (fun v _=>6 - (intOf v).toNat)
    case atStart=>exact ⟨0,Nat.zero_le _,rfl,HB.out⟩
    case round =>
     obtain ⟨q,hq,rfl,hbq⟩:=hrel
     rename_i wx
     have HBq:=hid hbq
     have HWq:=hid (HW.out.later hbq)
     have HRq:=hid (HR.out.later hbq)
     clear hbq
     by_cases hlq:q<6
     ·obtain ⟨⟨h1,h2,h3⟩,HST⟩:∃ x,Hid (stN (V.nd k) q=x):=⟨_,rfl⟩
      have HSt:=hid (wstate_ok k q h1 h2 h3 HWq.out HE.out HKz.out hlq HST.out)
      go_wp2_with fail
      refine HSt.out.mono ?_
      rintro e w6 ⟨rfl,hb6⟩
      obtain ⟨W7,HW7⟩:∃ W7,Hid (w6.alloc (.cells #[.int .i64 (h1:Int),.int .i64 (h2:Int),.int .i64 (h3:Int)] 43)=W7):=⟨_,rfl⟩
      have hW7:=HW7.out
      have HB7:Hid (Below w.heap.size w W7):=by rw [← HW7.out]; exact (HBq.out.trans (hb6.mono HBq.out.size)).alloc (HBq.out.trans (hb6.mono HBq.out.size)).size _
      have HR7:Hid (W7.heap[w6.heap.size]? = some (.cells #[.int .i64 (h1:Int),.int .i64 (h2:Int),.int .i64 (h3:Int)] 43 (0,0))):=by rw [← HW7.out]; exact heap_alloc_new w6 _
      have a0:W7.cell? ⟨w6.heap.size,0,none⟩=some (.int .i64 (h1:Int)):=by rw [cell_of_row _ _ _ _ _ _ HR7.out]; rfl
      have a1:W7.cell? ⟨w6.heap.size,1,none⟩=some (.int .i64 (h2:Int)):=by rw [cell_of_row _ _ _ _ _ _ HR7.out]; rfl
      have a2:W7.cell? ⟨w6.heap.size,2,none⟩=some (.int .i64 (h3:Int)):=by rw [cell_of_row _ _ _ _ _ _ HR7.out]; rfl
      obtain ⟨tx,HTx⟩:∃ tx,Hid (leadT (V.nd k) q=tx):=⟨_,rfl⟩
      have HLd:=hid (lead_ok k q (HW.out.later HB7.out) HKz.out hlq)
      rw [HTx.out] at HLd
      have HRs:Hid (∀ W',Below w.heap.size w W'→Calls Tryz.prog 99 #[.pointer (some ⟨Y.xb,0,none⟩),.int .i64 (k:Int),.int .i64 (q:Int)] W' fun e w'=>e=.returned (.agg #[.int .i64 (h1:Int),.int .i64 (h2:Int),.int .i64 (h3:Int)])∧Below W'.heap.size W' w'∧Below w.heap.size w w'):=fun W' hb=>by
       refine (rstate_is k q h1 h2 h3 (HR.out.later hb) HKz.out hlq HST.out).mono ?_
       rintro e w' ⟨rfl,hb'⟩
       exact ⟨rfl,hb',hb.trans (hb'.mono hb.size)⟩
      have HRl:Hid (∀ W',Below w.heap.size w W'→Calls Tryz.prog 100 #[.pointer (some ⟨Y.xb,0,none⟩),.int .i64 (k:Int),.int .i64 (q:Int)] W' fun e w'=>e=.returned (.string tx)∧w'=W'):=fun W' hb=>by
       refine (rleadOf_is k q (HR.out.later hb) HKz.out hlq).mono ?_
       rintro e w' ⟨⟨b,rfl,hbb⟩,rfl⟩
       refine ⟨?_,rfl⟩
       have hh:=(HW.out.inv.nd k HKz.out).ld q
       rw [hbb,← HTx.out]
       unfold leadT
       cases hx:(V.nd k).ld q with
       | none=>rfl
       | some x=>simp only [stP_B (hh x hx).2.2.1]
      have hne:=st_neq (h1:Int) (h2:Int) (h3:Int)
      clear hb6
      go_wp2_with fail
      refine HLd.out.mono ?_
      rintro e w8 ⟨rfl,hx8⟩
      subst w8
      go_wp2_with fail
      go_region_held3 (fun V=>V.cell? ⟨w6.heap.size,0,none⟩=some (.int .i64 (h1:Int))∧V.cell? ⟨w6.heap.size,1,none⟩=some (.int .i64 (h2:Int))∧V.cell? ⟨w6.heap.size,2,none⟩=some (.int .i64 (h3:Int))) (go_keep) (first|(go_at_call 99; (with_reducible refine (HRs.out _ HB7.out.drew).mono ?_); rintro e w9 ⟨rfl,hb9,hb9'⟩; have p1:=cell_later hb9 a0; have p2:=cell_later hb9 a1; have p3:=cell_later hb9 a2; have HB9:=hid hb9'; clear hb9 hb9')|(go_at_call 100; (with_reducible refine (HRl.out _ HB9.out).mono ?_); rintro e w10 ⟨rfl,hx10⟩; subst w10))
      go_wp2_with fail
      go_roundw
      case rel=>exact ⟨q+1,by omega,by go_num,HB9.out⟩
      case measure=>simp [intOf]; omega
     ·obtain rfl:q=6:=by omega
      go_wp2_with fail
      refine ⟨⟨k+1,by omega,by go_num,HBq.out⟩,?_⟩
      simp [intOf]; omega
  ·obtain rfl:k=z:=by omega
   have HNo:=hid (is_no (k:Int) HWr.out HE.out (by rw [hz.out]; omega))
   go_wp2_with fail
   refine HNo.out.mono ?_
   rintro e w5 ⟨rfl,hb5⟩
   have HB5:=hid (HB.out.trans (hb5.mono HB.out.size))
   have HSn:=hid (wstate_no (w:=w5) 0 6 (HW.out.later HB5.out) HE.out (by omega))
   clear hb5
   go_wp2_with fail
   refine HSn.out.mono ?_
   rintro e w6 ⟨rfl,hb6⟩
   have HB7:Hid (Below w.heap.size w (w6.alloc (.cells #[.int .i64 0,.int .i64 0,.int .i64 0] 43))):=(HB5.out.trans (hb6.mono HB5.out.size)).alloc (HB5.out.trans (hb6.mono HB5.out.size)).size _
   have HLn:=hid (lead_no (w:=w6.alloc (.cells #[.int .i64 0,.int .i64 0,.int .i64 0] 43)) (-1) 0 (HW.out.later HB7.out) HE.out (by omega))
   clear hb6
   go_wp2_with fail
   refine HLn.out.mono ?_
   rintro e w8 ⟨rfl,hb8⟩
   have HB8:=hid (HB7.out.trans (hb8.mono HB7.out.size))
   have HC1:=hid (coded_ev A 2 w8 (HEw.out.later HB8.out) (by decide))
   clear hb8
   go_wp2_with fail
   refine HC1.out.mono ?_
   rintro e w9 ⟨rfl,hb9⟩
   have HB9:=hid (HB8.out.trans (hb9.mono HB8.out.size))
   have HC2:=hid (coded_ev A 2 w9 (HEw.out.later HB9.out) (by decide))
   clear hb9
   go_wp2_with fail
   refine HC2.out.mono ?_
   rintro e w10 ⟨rfl,hb10⟩
   have HB10:=hid (HB9.out.trans (hb10.mono HB9.out.size))
   have HC3:=hid (coded_ev A 2 w10 (HEw.out.later HB10.out) (by decide))
   clear hb10
   go_wp2_with fail
   refine HC3.out.mono ?_
   rintro e w11 ⟨rfl,hb11⟩
   have HB11:=hid (HB10.out.trans (hb11.mono HB10.out.size))
   clear hb11
   go_wp2_with fail
   go_ret
   exact ⟨rfl,HB11.out⟩
end
section
variable {w0 v0 w w1 w':World} {C D C' D':Nat→Nat} {X:XB} {Y:YB} {aw:Option Addr} {i n cap m m' M:Nat} {zs:List Int} {V V' V1 V2:PX} {A:Nat→Addr}
theorem rtick_any (s:Int) (c:Nat) (h:RW w0 w C Y aw cap zs V m) (hm:m<900000) (hc:cUp zs.length V s=c) :
  Calls Tryz.prog 90 #[.pointer (some ⟨Y.xb,0,none⟩),.int .i64 s] w fun e w'=>e=.returned (.int .i64 (c:Int))∧ROut w0 w w' C Y aw cap zs (if c=0 then tickX zs s.toNat 6 0 V else V) (m+42):=by
 by_cases c0:c=0
 ·subst c0
  obtain ⟨k,rfl,hk,hu⟩:=rcUp_zero hc
  rw [if_pos rfl,Int.toNat_natCast]
  exact rtick_ok k h hk hu hm
 ·rw [if_neg c0]
  have H:=hid h
  have HU:=hid (rup_is s c h hc)
  have c9:¬ ((c:Int)≤0):=by omega
  have c8:(0:Int)<(c:Int):=by omega
  clear h hc
  go_enter Tryz.func90,Tryz.ntmps90
  go_wp2_with fail
  refine HU.out.mono ?_
  rintro e w1 ⟨rfl,hx⟩
  subst w1
  go_wp2_with fail
  go_ret
  exact ⟨rfl,H.out.out (Below.refl _ _) (by omega)⟩
structure Two (w0 w:World) (C:Nat→Nat) (X:XB) (D:Nat→Nat) (Y:YB) (aw:Option Addr) (cap:Nat) (zs:List Int) (V1 V2:PX) (m m':Nat):Prop where
 wd:WD w0 w C X zs V1 m
 rw:RW w0 w D Y aw cap zs V2 m'
 ap:Apt C D
theorem Two.later (h:Two w0 w C X D Y aw cap zs V1 V2 m m') (hb:Below w.heap.size w w'):Two w0 w' C X D Y aw cap zs V1 V2 m m':=⟨h.wd.later hb,h.rw.later hb,h.ap⟩
theorem Two.prog (h:Two w0 w C X D Y aw cap zs V1 V2 m m') (ho:WOut w0 w w' C X zs V M):∃ C' X',Two w0 w' C' X' D Y aw cap zs V V2 M m'∧key X'=key X∧Kept (OwnX C) w w'∧∀ x,x<w.heap.size→C' x=C x:=by
 obtain ⟨C',X',x1,x2,x3,x4⟩:=ho
 refine ⟨C',X',⟨x1,h.rw.far x3 h.ap (fun x hx=>h.wd.low x hx),fun x hx=>?_⟩,x2,x3,x4⟩
 rcases Nat.lt_or_ge (D x) 2000 with q|q
 ·have h1:=h.rw.lt x q
  rw [x4 x h1] at hx
  have:=h.ap x hx
  omega
 ·exact q
theorem Two.doc (h:Two w0 w C X D Y aw cap zs V1 V2 m m') (ho:ROut w0 w w' D Y aw cap zs V M):∃ D' Y',Two w0 w' C X D' Y' aw cap zs V1 V m M∧rkey Y'=rkey Y∧Kept (OwnX D) w w'∧∀ x,x<w.heap.size→D' x=D x:=by
 obtain ⟨D',Y',x1,x2,x3,x4⟩:=ho
 refine ⟨D',Y',⟨h.wd.far x3 h.ap.symm (fun x hx=>h.rw.low x hx),x1,Apt.symm (fun x hx=>?_)⟩,x2,x3,x4⟩
 rcases Nat.lt_or_ge (C x) 2000 with q|q
 ·have h1:=h.wd.lt x q
  rw [x4 x h1] at hx
  have:=h.ap.symm x hx
  omega
 ·exact q
def KC (b:Nat) (w w':World):Prop:=∀ j u,w.cell? ⟨b,j,none⟩=some u→w'.cell? ⟨b,j,none⟩=some u
def TwoOut (w0 w':World) (X:XB) (Y:YB) (aw:Option Addr) (cap:Nat) (zs:List Int) (V:PX) (M:Nat):Prop :=
 ∃ C' X' D' Y',Two w0 w' C' X' D' Y' aw cap zs V V M M∧key X'=key X∧rkey Y'=rkey Y
def Alike2 (w0:World) (A:Nat→Addr) (aw:Option Addr) (cap:Nat) (zs:List Int) (V:PX) (m M:Nat) (f1 f2:Nat) (as1 as2:Value→Array Value):Prop :=
 ∃ c V',c≤9∧(∀ w C X,WD w0 w C X zs V m→Calls Tryz.prog f1 (as1 (.pointer (some ⟨X.xb,0,none⟩))) w fun e w'=>e=.returned (ev A c)∧WOut w0 w w' C X zs V' M) ∧
  ∀ w D Y,RW w0 w D Y aw cap zs V m→Calls Tryz.prog f2 (as2 (.pointer (some ⟨Y.xb,0,none⟩))) w fun e w'=>e=.returned (.int .i64 (c:Int))∧ROut w0 w w' D Y aw cap zs V' M
theorem Alike2.both {f1 f2 b:Nat} {as1 as2:Value→Array Value} (h:Alike2 w0 A aw cap zs V m M f1 f2 as1 as2) (hE:Held9 w0 A):∃ c:Nat,∀ w C X D Y,Two w0 w C X D Y aw cap zs V V m m→2000≤C b→2000≤D b→b<w.heap.size →
  (Calls Tryz.prog f1 (as1 (.pointer (some ⟨X.xb,0,none⟩))) w fun e w1=>e=.returned (ev A c)∧KC b w w1∧Calls Tryz.prog f2 (as2 (.pointer (some ⟨Y.xb,0,none⟩))) w1 fun e w2=>e=.returned (.int .i64 (c:Int))∧KC b w w2∧Calls Tryz.prog 39 #[ev A c,.int .i64 (c:Int)] w2 fun e w3=>e=.returned (.bool true)∧KC b w w3∧∃ V',TwoOut w0 w3 X Y aw cap zs V' M) ∧
  (Calls Tryz.prog f2 (as2 (.pointer (some ⟨Y.xb,0,none⟩))) w fun e w1=>e=.returned (.int .i64 (c:Int))∧KC b w w1∧Calls Tryz.prog f1 (as1 (.pointer (some ⟨X.xb,0,none⟩))) w1 fun e w2=>e=.returned (ev A c)∧KC b w w2∧Calls Tryz.prog 39 #[ev A c,.int .i64 (c:Int)] w2 fun e w3=>e=.returned (.bool true)∧KC b w w3∧∃ V',TwoOut w0 w3 X Y aw cap zs V' M):=by
 obtain ⟨c,V',hc,hp,hd⟩:=h
 refine ⟨c,fun w C X D Y hT hCb hDb hb=>⟨?_,?_⟩⟩
 ·refine (hp w C X hT.wd).mono ?_
  rintro e w1 ⟨rfl,ho⟩
  obtain ⟨C1,X1,hT1,k1,kk1,hc1⟩:=hT.prog ho
  have kc1:KC b w w1:=fun j u hu=>cell_kept hu kk1 (fun q=>by have q':C b<2000:=q; omega)
  refine ⟨rfl,kc1,?_⟩
  refine (hd w1 D Y hT1.rw).mono ?_
  rintro e w2 ⟨rfl,ho2⟩
  obtain ⟨D2,Y2,hT2,k2,kk2,hc2⟩:=hT1.doc ho2
  have kc2:KC b w w2:=fun j u hu=>cell_kept (kc1 j u hu) kk2 (fun q=>by have q':D b<2000:=q; omega)
  refine ⟨rfl,kc2,?_⟩
  refine (coded_ev A c w2 (hE.later hT2.wd.bel) hc).mono ?_
  rintro e w3 ⟨rfl,hb3⟩
  exact ⟨rfl,fun j u hu=>cell_later hb3 (kc2 j u hu),V',C1,X1,D2,Y2,hT2.later hb3,k1,k2⟩
 ·refine (hd w D Y hT.rw).mono ?_
  rintro e w1 ⟨rfl,ho⟩
  obtain ⟨D1,Y1,hT1,k1,kk1,hc1⟩:=hT.doc ho
  have kc1:KC b w w1:=fun j u hu=>cell_kept hu kk1 (fun q=>by have q':D b<2000:=q; omega)
  refine ⟨rfl,kc1,?_⟩
  refine (hp w1 C X hT1.wd).mono ?_
  rintro e w2 ⟨rfl,ho2⟩
  obtain ⟨C2,X2,hT2,k2,kk2,hc2⟩:=hT1.prog ho2
  have kc2:KC b w w2:=fun j u hu=>cell_kept (kc1 j u hu) kk2 (fun q=>by have q':C b<2000:=q; omega)
  refine ⟨rfl,kc2,?_⟩
  refine (coded_ev A c w2 (hE.later hT2.wd.bel) hc).mono ?_
  rintro e w3 ⟨rfl,hb3⟩
  exact ⟨rfl,fun j u hu=>cell_later hb3 (kc2 j u hu),V',C2,X2,D1,Y1,hT2.later hb3,k2,k1⟩
theorem a_begin (s d:Int) (hE:Held9 w0 A) (hm:m<800000):Alike2 w0 A aw cap zs V m (m+42) 18 88 (fun p=>#[p,.int .i64 s,.int .i64 d]) (fun p=>#[p,.int .i64 s,.int .i64 d]):=by
 refine ⟨cBeg zs.length V s d,if cBeg zs.length V s d=0 then beginX zs V s.toNat d.toNat else V,?_,fun w C X h=>(begin_any s d _ h hE (by omega) rfl).mono ?_,fun w D Y h=>(rbegin_any s d _ h (by omega) rfl).mono ?_⟩
 ·unfold cBeg; repeat' split
  all_goals omega
 ·rintro e w' ⟨rfl,ho⟩; exact ⟨rfl,ho.mono (by omega)⟩
 ·rintro e w' ⟨rfl,ho⟩; exact ⟨rfl,ho.mono (by omega)⟩
theorem a_refuse (s d:Int) (hE:Held9 w0 A) (hm:m<800000):Alike2 w0 A aw cap zs V m (m+42) 17 89 (fun p=>#[p,.int .i64 s,.int .i64 d]) (fun p=>#[p,.int .i64 s,.int .i64 d]):=by
 refine ⟨cRef zs.length V s d,if cRef zs.length V s d=0 then refuseX V s.toNat d.toNat else V,?_,fun w C X h=>(refuse_any s d _ h hE (by omega) rfl).mono ?_,fun w D Y h=>(rrefuse_any s d _ h rfl).mono ?_⟩
 ·unfold cRef; repeat' split
  all_goals omega
 ·rintro e w' ⟨rfl,ho⟩; exact ⟨rfl,ho.mono (by omega)⟩
 ·rintro e w' ⟨rfl,ho⟩; exact ⟨rfl,ho.mono (by omega)⟩
theorem a_tick (s:Int) (hE:Held9 w0 A) (hm:m<800000):Alike2 w0 A aw cap zs V m (m+42) 67 90 (fun p=>#[p,.int .i64 s]) (fun p=>#[p,.int .i64 s]):=by
 refine ⟨cUp zs.length V s,if cUp zs.length V s=0 then tickX zs s.toNat 6 0 V else V,cUp_le,fun w C X h=>(tick_any s _ h hE (by omega) rfl).mono ?_,fun w D Y h=>(rtick_any s _ h (by omega) rfl).mono ?_⟩
 ·rintro e w' ⟨rfl,ho⟩; exact ⟨rfl,ho⟩
 ·rintro e w' ⟨rfl,ho⟩; exact ⟨rfl,ho⟩
theorem a_down (s:Int) (hE:Held9 w0 A):Alike2 w0 A aw cap zs V m (m+42) 34 91 (fun p=>#[p,.int .i64 s]) (fun p=>#[p,.int .i64 s]):=by
 refine ⟨cUp zs.length V s,if cUp zs.length V s=0 then downX V s.toNat else V,cUp_le,fun w C X h=>(down_any s _ h hE rfl).mono ?_,fun w D Y h=>(rdown_any s _ h rfl).mono ?_⟩
 ·rintro e w' ⟨rfl,ho⟩; exact ⟨rfl,ho.mono (by omega)⟩
 ·rintro e w' ⟨rfl,ho⟩; exact ⟨rfl,ho.mono (by omega)⟩
theorem a_up (s:Int) (hE:Held9 w0 A):Alike2 w0 A aw cap zs V m (m+42) 35 92 (fun p=>#[p,.int .i64 s]) (fun p=>#[p,.int .i64 s]):=by
 refine ⟨cWake zs.length V s,if cWake zs.length V s=0 then upX V s.toNat else V,?_,fun w C X h=>(wake_any s _ h hE rfl).mono ?_,fun w D Y h=>(rwake_any s _ h rfl).mono ?_⟩
 ·unfold cWake; repeat' split
  all_goals omega
 ·rintro e w' ⟨rfl,ho⟩; exact ⟨rfl,ho.mono (by omega)⟩
 ·rintro e w' ⟨rfl,ho⟩; exact ⟨rfl,ho.mono (by omega)⟩
theorem a_cut (s x:Int) (hE:Held9 w0 A) (hx:x≤9223372036854775807):Alike2 w0 A aw cap zs V m (m+42) 69 96 (fun p=>#[p,.int .i64 s,.int .i64 x]) (fun p=>#[p,.int .i64 s,.int .i64 x]):=by
 refine ⟨cCut zs.length V s x,if 0≤s∧s<zs.length then cutX V s.toNat x else V,?_,fun w C X h=>(cut_any s x _ h hE hx rfl).mono ?_,fun w D Y h=>(rcut_any s x _ h hx rfl).mono ?_⟩
 ·unfold cCut; split
  ·exact cC_le _ _
  ·omega
 ·rintro e w' ⟨rfl,ho⟩; exact ⟨rfl,ho.mono (by omega)⟩
 ·rintro e w' ⟨rfl,ho⟩; exact ⟨rfl,ho.mono (by omega)⟩
theorem a_drop (x:Int) (hE:Held9 w0 A) (hm:m<800000):Alike2 w0 A aw cap zs V m (m+42) 38 93 (fun p=>#[p,.int .i64 x]) (fun p=>#[p,.int .i64 x]):=by
 by_cases hx:0≤x∧x<V.fly.length
 ·obtain ⟨k,rfl⟩:=Int.eq_ofNat_of_zero_le hx.1
  refine ⟨0,takeX V k,by omega,fun w C X h=>(drop_ok k h (by omega) (by omega)).mono ?_,fun w D Y h=>(rdrop_ok k h (by omega) (by omega)).mono ?_⟩
  ·rintro e w' ⟨rfl,ho⟩; exact ⟨rfl,ho.mono (by omega)⟩
  ·rintro e w' ⟨rfl,ho⟩; exact ⟨rfl,ho.mono (by omega)⟩
 ·refine ⟨4,V,by omega,fun w C X h=>(drop_no x h hE hx).mono ?_,fun w D Y h=>(rdrop_no x h hx (by omega)).mono ?_⟩
  ·rintro e w' ⟨rfl,rfl⟩; exact ⟨rfl,h.out (Below.refl _ _) (by omega)⟩
  ·rintro e w' ⟨rfl,hb⟩; exact ⟨rfl,h.out hb (by omega)⟩
theorem a_twice (x:Int) (hE:Held9 w0 A) (hm:m<800000):Alike2 w0 A aw cap zs V m (m+42) 68 94 (fun p=>#[p,.int .i64 x]) (fun p=>#[p,.int .i64 x]):=by
 by_cases hx:0≤x∧x<V.fly.length
 ·obtain ⟨k,rfl⟩:=Int.eq_ofNat_of_zero_le hx.1
  have hk:k<V.fly.length:=by omega
  refine ⟨0,twiceX V k (V.fly[k]'hk),by omega,fun w C X h=>(twice_ok k _ h hk rfl (by omega)).mono ?_,fun w D Y h=>(rtwice_ok k _ h hk rfl (by omega)).mono ?_⟩
  ·rintro e w' ⟨rfl,ho⟩; exact ⟨rfl,ho.mono (by omega)⟩
  ·rintro e w' ⟨rfl,ho⟩; exact ⟨rfl,ho.mono (by omega)⟩
 ·refine ⟨4,V,by omega,fun w C X h=>(twice_no x h hE hx).mono ?_,fun w D Y h=>(rtwice_no x h hx (by omega)).mono ?_⟩
  ·rintro e w' ⟨rfl,rfl⟩; exact ⟨rfl,h.out (Below.refl _ _) (by omega)⟩
  ·rintro e w' ⟨rfl,rfl⟩; exact ⟨rfl,h.out (Below.refl _ _) (by omega)⟩
theorem a_link (s d:Int) (b:Bool) (hE:Held9 w0 A) (hm:m<800000):Alike2 w0 A aw cap zs V m (m+42) 33 95 (fun p=>#[p,.int .i64 s,.int .i64 d,.bool b]) (fun p=>#[p,.int .i64 s,.int .i64 d,.bool b]):=by
 by_cases hx:(0≤s∧s<zs.length)∧0≤d∧d<zs.length
 ·obtain ⟨k,rfl⟩:=Int.eq_ofNat_of_zero_le hx.1.1
  obtain ⟨j,rfl⟩:=Int.eq_ofNat_of_zero_le hx.2.1
  refine ⟨0,linkX V k j b,by omega,fun w C X h=>(link_ok k j b h (by omega) (by omega) (by omega)).mono ?_,fun w D Y h=>(rlink_ok k j b h (by omega) (by omega) (by omega)).mono ?_⟩
  ·rintro e w' ⟨rfl,ho⟩; exact ⟨rfl,ho.mono (by omega)⟩
  ·rintro e w' ⟨rfl,ho⟩; exact ⟨rfl,ho.mono (by omega)⟩
 ·refine ⟨2,V,by omega,fun w C X h=>(link_no s d b h hE hx).mono ?_,fun w D Y h=>(rlink_no s d b h hx).mono ?_⟩
  ·rintro e w' ⟨rfl,rfl⟩; exact ⟨rfl,h.out (Below.refl _ _) (by omega)⟩
  ·rintro e w' ⟨rfl,rfl⟩; exact ⟨rfl,h.out (Below.refl _ _) (by omega)⟩
theorem a_deliver (x:Int) (hE:Held9 w0 A) (hm:m<800000):Alike2 w0 A aw cap zs V m (m+42) 20 97 (fun p=>#[p,.int .i64 x]) (fun p=>#[p,.int .i64 x]):=by
 by_cases hx:0≤x∧x<V.fly.length
 ·obtain ⟨k,rfl⟩:=Int.eq_ofNat_of_zero_le hx.1
  have hk:k<V.fly.length:=by omega
  refine ⟨0,deliverX zs V k (V.fly[k]'hk),by omega,fun w C X h=>(deliver_ok k _ h hE hk rfl (by omega)).mono ?_,fun w D Y h=>(rdeliver_ok k _ h hk rfl (by omega)).mono ?_⟩
  ·rintro e w' ⟨rfl,ho⟩; exact ⟨rfl,ho.mono (by omega)⟩
  ·rintro e w' ⟨rfl,ho⟩; exact ⟨rfl,ho.mono (by omega)⟩
 ·refine ⟨4,V,by omega,fun w C X h=>(deliver_no x h hE hx).mono ?_,fun w D Y h=>(rdeliver_no x h hx (by omega)).mono ?_⟩
  ·rintro e w' ⟨rfl,rfl⟩; exact ⟨rfl,h.out (Below.refl _ _) (by omega)⟩
  ·rintro e w' ⟨rfl,hb⟩; exact ⟨rfl,h.out hb (by omega)⟩
end
end Go.Proofs.YtadhpkopkkjmfaaGreatDoor
