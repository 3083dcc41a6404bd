/-
  On the way to PRunsProof: N6 N6A N6C N6D N6E.
-/
import Derived.Test.YtjcflddbaeiajacGreatDoorBt51
set_option maxHeartbeats 8000000
set_option maxRecDepth 100000
namespace Go.Proofs.YtjcflddbaeiajacGreatDoor
open Go.RowKit
theorem own_newW {w0 w3 w4:World} {C:Nat→Nat} {X:XB} {zs:List Int} {V:PX} {m n:Nat} {v:Value} {ys:List Value} (h:WD w0 w3 C X zs V m) (ho:w4.ownsRow w3.heap.size 3 1 v n ys):∀ g,v.ownBlock=some g→2000≤C g:=fun g hg=>by
 have h1:=ho.lt g hg
 rcases Nat.lt_or_ge (C g) 2000 with q|q
 ·have:=h.lt g q; omega
 ·exact q
theorem potN_new (zs:List Int):pot zs newX≤0:=by
 show wtL []+_≤0
 have h:∀ n k,sumN (fun i=>potN n (newX.nd i)) k=0:=by
  intro n k
  induction k with
  | zero=>rfl
  | succ k ih=>unfold sumN; rw [ih]; rfl
 rw [h]; exact Nat.le_refl _
theorem rounds_no {w0 w:World} {C:Nat→Nat} {X:XB} {m:Nat} {zs:List Int} {V:PX} {A:Nat→Addr} (set n:Int) (h:WD w0 w C X zs V m) (hE:Held9 w0 A) (hn:set<0 ∨ n<0 ∨ 10<n) :
  Calls Tryz.prog 30 #[.pointer (some ⟨X.xb,0,none⟩),.int .i64 set,.int .i64 n] w fun e w'=>e=.returned (.tuple #[.int .i64 0,ev A 2])∧Below w.heap.size w w':=by
 have g3:=(h.held hE).var 1 (by decide)
 have g3':w.cell? ⟨0,0,none⟩=some (.iface 407 (.pointer (some (A 1)))):=g3
 clear h hE g3
 by_cases h1:set<0
 ·go_enter Tryz.func30,Tryz.ntmps30
  go_wp2_with fail
  go_quiet (fail)
  go_wp2_with fail
  go_ret2
  exact ⟨rfl,below_drewN (Below.refl _ _) _⟩
 ·by_cases h2:n<0
  ·go_enter Tryz.func30,Tryz.ntmps30
   go_wp2_with fail
   go_quiet (fail)
   go_wp2_with fail
   go_ret2
   exact ⟨rfl,below_drewN (Below.refl _ _) _⟩
  ·have h3:10<n:=by omega
   go_enter Tryz.func30,Tryz.ntmps30
   go_wp2_with fail
   go_quiet (fail)
   go_wp2_with fail
   go_ret2
   exact ⟨rfl,below_drewN (Below.refl _ _) _⟩
section
variable {w0 w wr:World} {C C':Nat→Nat} {X X':XB} {zs vs:List Int} {V:PX} {m:Nat} {u:Value}
theorem RuI.all (h:RuI w0 w wr C X zs vs V m vs.length u C' X'):WOut w0 w wr C X zs (runX zs vs V) (m+42 * vs.length)∧wr.ownsRow w.heap.size 3 1 u vs.length ((runA zs vs V).map (Value.int .i64))∧pot zs (runX zs vs V)≤pot zs V+210 * vs.length:=by
 have h1:=h.wd
 have h2:=h.own
 have h3:=h.alng (fun j U=>pot zs U≤pot zs V+210 * j) (fun j U U' q hs hX _ hj=>by have:=hs.pot hX; omega) (Nat.le_refl _)
 rw [List.take_length] at h1 h2 h3
 exact ⟨⟨C',X',h1,h.ky,h.kept,h.col⟩,h2,h3⟩
theorem RrI.all {Y Y':YB} {aw:Option Addr} {cap:Nat} (h:RrI w0 w wr C Y aw cap zs vs V m vs.length u C' Y'):ROut w0 w wr C Y aw cap zs (runX zs vs V) (m+42 * vs.length)∧wr.ownsRow w.heap.size 3 1 u vs.length ((runA zs vs V).map (Value.int .i64)):=by
 have h1:=h.rw
 have h2:=h.own
 rw [List.take_length] at h1 h2
 exact ⟨⟨C',Y',h1,h.ky,h.kept,h.col⟩,h2⟩
end
theorem pruns_a (hNew:NewOk) (A:Nat→Addr) (av au:Option Addr) (capv capu nz l:Nat) (zs vs:List Int) (set n:Int) (w:World) (hE:Held9 w A) (hv:IsSl w (.slice av nz capv) zs) (hu:IsSl w (.slice au l capu) vs) (hr:∀ y,y∈vs→y≤9223372036854775807) (hN:zs.length=nz) (hL:vs.length=l) (he:errW zs=0) (h200:l≤200) (q0:set<0) (q1:3<n) (q2:¬ n≤10) :
  Calls Tryz.prog 7 #[.slice av nz capv,.slice au l capu,.int .i64 set,.int .i64 n] w fun e w'=>e=.returned (.bool true)∧Below w.heap.size w w':=by
 have HE:=hid hE
 have HV:=hid hv
 have HU:=hid hu
 have HR:=hid hr
 have HNw:=hid hNew
 have HN:=hid hN
 have HL:=hid hL
 have HEr:=hid he
 have e200:¬ (200:Int)<(l:Int):=by omega
 obtain ⟨n1,n7,-,-⟩:=errW_zero he
 rw [HN.out] at n1 n7
 clear hE hr hNew hv hu hN hL he
 go_enter Tryz.func7,Tryz.ntmps7
 go_wp2_with fail
 refine (born_any A w HE.out).mono ?_
 rintro e w1 ⟨rfl,hb⟩
 have HB1:=hid hb
 have HWe:=hid (rErrN _ zs 0 w1 (HV.out.later hb) HEr.out)
 rw [show ((0:Nat):Int)=0 from rfl] at HWe
 have HOwn:=hid (ownInts_any _ zs w1 (HV.out.later hb) (by rw [HN.out]; omega))
 clear hb
 go_wp2_with fail
 refine HWe.out.mono ?_
 rintro e w2 ⟨rfl,hx⟩
 subst w2
 go_wp2_with fail
 refine HOwn.out.mono ?_
 rintro e w2 ⟨v2,rfl,hv2,hb2⟩
 have HV2:=hid hv2
 have HB2:=hid (below_trans HB1.out hb2)
 clear hv2 hb2
 have HNewW:=hid (wnew_ok v2 HV2.out (HE.out.later HB2.out) HEr.out)
 go_wp2_with fail
 refine HNewW.out.mono ?_
 rintro e w3 ⟨C,X,rfl,h3⟩
 have H3:=hid h3
 have HB3:=hid (below_trans HB2.out h3.bel)
 have HMod:=hid (HNw.out w3 av capv zs (by rw [HN.out]; exact HV.out.later HB3.out) HEr.out)
 rw [HN.out] at HMod
 clear h3
 go_wp2_with fail
 refine HMod.out.mono ?_
 rintro e w4 ⟨D,Y,rfl,h4⟩
 have HT4:=hid (two_new H3.out h4 (by rw [HN.out]; exact HV.out.later HB2.out))
 clear h4
 have HB4:=hid (below_trans HB2.out HT4.out.wd.bel)
 have HOw2:=hid (ownInts_long _ vs w4 (HU.out.later HB4.out) (by rw [HL.out]; omega))
 go_wp2_with fail
 refine HOw2.out.mono ?_
 rintro e w5 ⟨v5,rfl,ho5,hb5⟩
 have HT5:=hid (HT4.out.later hb5)
 have HRun:=hid (run_any v5 w4.heap.size HT5.out.wd (HE.out.later HB2.out) ho5 (by rw [HL.out]; omega) HR.out (by rw [HL.out]; omega) (own_newW HT4.out.wd ho5))
 clear ho5 hb5
 go_wp2_with fail
 refine HRun.out.mono ?_
 rintro e w6 ⟨u6,C6,X6,rfl,h6⟩
 obtain ⟨hw6,ho6,hp6⟩:=h6.all
 have HO6:=hid ho6
 have HP6:=hid hp6
 clear h6 ho6 hp6
 have Hlt5:Hid (∀ g,D g<2000→g<w5.heap.size):=HT5.out.rw.lt
 obtain ⟨Cp,Xp,t6,kx6,-,-⟩:=HT5.out.prog hw6
 clear hw6
 have HT6:=hid t6
 have HKx:=hid kx6
 clear t6 kx6
 have HRr:=hid (rrun_any (.slice au l capu) HT6.out.rw (HU.out.later HB2.out) (by rw [HL.out]; omega) HR.out (by rw [HL.out]; omega))
 go_wp2_with fail
 refine HRr.out.mono ?_
 rintro e w7 ⟨u7,D7,Y7,rfl,h7⟩
 have Hk7:=hid h7.kept
 obtain ⟨hw7,ho7⟩:=h7.all
 have HO7:=hid ho7
 clear h7 ho7
 obtain ⟨Dp,Yp,t7,ky7,-,-⟩:=HT6.out.doc hw7
 clear hw7
 have HT7:=hid t7
 have HKy:=hid ky7
 clear t7 ky7
 have HO67:=hid (own_kept HO6.out Hk7.out (fun g hg e=>by
  have h1:=HO6.out.lt g hg
  have h2:D g<2000:=e
  have h3:=Hlt5.out g h2
  omega))
 obtain ⟨LA,HLA⟩:∃ LA,Hid (runA zs vs newX=LA):=⟨_,rfl⟩
 have HLl:Hid (LA.length=l):=by rw [← HLA.out,runA_length,HL.out]; exact rfl
 rw [HLA.out,HL.out,← HLl.out] at HO67 HO7
 have HSame:=hid (sameI_yes u6 u7 LA w7 (IsSl.owned HO67.out (by rw [HLl.out]; unfold maxLen; omega)) (IsSl.owned HO7.out (by rw [HLl.out]; unfold maxLen; omega)) (by rw [HLl.out]; omega))
 go_wp2_with fail
 refine HSame.out.mono ?_
 rintro e w7b ⟨rfl,hb7⟩
 rw [HL.out] at HT7
 have HT7b:=hid (HT7.out.later hb7)
 clear hb7
 have HAs:=hid (asWorld_any HT7b.out.wd HT7b.out.rw (HE.out.later HB2.out) (by omega))
 rw [key_xb HKx.out,rkey_xb HKy.out] at HAs
 go_wp2_with fail
 refine HAs.out.mono ?_
 rintro e w8 ⟨rfl,hb8⟩
 have HT8:=hid (HT7b.out.later hb8)
 clear hb8
 have HB8:=hid (below_trans HB2.out HT8.out.wd.bel)
 have HRo:=hid (rounds_no set n HT8.out.wd (HE.out.later HB2.out) (by omega))
 rw [key_xb HKx.out] at HRo
 go_wp2_with fail
 refine HRo.out.mono ?_
 rintro e w8b ⟨rfl,hb8b⟩
 have HT8b:=hid (HT8.out.later hb8b)
 have HB8b:=hid (below_trans HB8.out hb8b)
 clear hb8b
 have HCo:=hid (coded_ev A 2 w8b (HE.out.later HB8b.out) (by omega))
 go_wp2_with fail
 refine HCo.out.mono ?_
 rintro e w9 ⟨rfl,hb9⟩
 have HT9:=hid (HT8b.out.later hb9)
 have HB9:=hid (below_trans HB8b.out hb9)
 clear hb9
 have HAs2:=hid (asWorld_any HT9.out.wd HT9.out.rw (HE.out.later HB2.out) (by omega))
 rw [key_xb HKx.out,rkey_xb HKy.out] at HAs2
 go_wp2_with fail
 refine HAs2.out.mono ?_
 rintro e w10 ⟨rfl,hb10⟩
 have HB10:=hid (below_trans HB9.out hb10)
 clear hb10
 go_wp2_with fail
 go_ret
 exact ⟨rfl,HB10.out⟩
theorem pruns_c (hNew:NewOk) (A:Nat→Addr) (av au:Option Addr) (capv capu nz l:Nat) (zs vs:List Int) (set n:Int) (w:World) (hE:Held9 w A) (hv:IsSl w (.slice av nz capv) zs) (hu:IsSl w (.slice au l capu) vs) (hr:∀ y,y∈vs→y≤9223372036854775807) (hN:zs.length=nz) (hL:vs.length=l) (he:errW zs=0) (h200:l≤200) (q0:¬ set<0) (q1:3<n) (_q2:¬ n≤10) (q3:¬ n<0) (q4:10<n) :
  Calls Tryz.prog 7 #[.slice av nz capv,.slice au l capu,.int .i64 set,.int .i64 n] w fun e w'=>e=.returned (.bool true)∧Below w.heap.size w w':=by
 have HE:=hid hE
 have HV:=hid hv
 have HU:=hid hu
 have HR:=hid hr
 have HNw:=hid hNew
 have HN:=hid hN
 have HL:=hid hL
 have HEr:=hid he
 have e200:¬ (200:Int)<(l:Int):=by omega
 obtain ⟨n1,n7,-,-⟩:=errW_zero he
 rw [HN.out] at n1 n7
 clear hE hr hNew hv hu hN hL he
 go_enter Tryz.func7,Tryz.ntmps7
 go_wp2_with fail
 refine (born_any A w HE.out).mono ?_
 rintro e w1 ⟨rfl,hb⟩
 have HB1:=hid hb
 have HWe:=hid (rErrN _ zs 0 w1 (HV.out.later hb) HEr.out)
 rw [show ((0:Nat):Int)=0 from rfl] at HWe
 have HOwn:=hid (ownInts_any _ zs w1 (HV.out.later hb) (by rw [HN.out]; omega))
 clear hb
 go_wp2_with fail
 refine HWe.out.mono ?_
 rintro e w2 ⟨rfl,hx⟩
 subst w2
 go_wp2_with fail
 refine HOwn.out.mono ?_
 rintro e w2 ⟨v2,rfl,hv2,hb2⟩
 have HV2:=hid hv2
 have HB2:=hid (below_trans HB1.out hb2)
 clear hv2 hb2
 have HNewW:=hid (wnew_ok v2 HV2.out (HE.out.later HB2.out) HEr.out)
 go_wp2_with fail
 refine HNewW.out.mono ?_
 rintro e w3 ⟨C,X,rfl,h3⟩
 have H3:=hid h3
 have HB3:=hid (below_trans HB2.out h3.bel)
 have HMod:=hid (HNw.out w3 av capv zs (by rw [HN.out]; exact HV.out.later HB3.out) HEr.out)
 rw [HN.out] at HMod
 clear h3
 go_wp2_with fail
 refine HMod.out.mono ?_
 rintro e w4 ⟨D,Y,rfl,h4⟩
 have HT4:=hid (two_new H3.out h4 (by rw [HN.out]; exact HV.out.later HB2.out))
 clear h4
 have HB4:=hid (below_trans HB2.out HT4.out.wd.bel)
 have HOw2:=hid (ownInts_long _ vs w4 (HU.out.later HB4.out) (by rw [HL.out]; omega))
 go_wp2_with fail
 refine HOw2.out.mono ?_
 rintro e w5 ⟨v5,rfl,ho5,hb5⟩
 have HT5:=hid (HT4.out.later hb5)
 have HRun:=hid (run_any v5 w4.heap.size HT5.out.wd (HE.out.later HB2.out) ho5 (by rw [HL.out]; omega) HR.out (by rw [HL.out]; omega) (own_newW HT4.out.wd ho5))
 clear ho5 hb5
 go_wp2_with fail
 refine HRun.out.mono ?_
 rintro e w6 ⟨u6,C6,X6,rfl,h6⟩
 obtain ⟨hw6,ho6,hp6⟩:=h6.all
 have HO6:=hid ho6
 have HP6:=hid hp6
 clear h6 ho6 hp6
 have Hlt5:Hid (∀ g,D g<2000→g<w5.heap.size):=HT5.out.rw.lt
 obtain ⟨Cp,Xp,t6,kx6,-,-⟩:=HT5.out.prog hw6
 clear hw6
 have HT6:=hid t6
 have HKx:=hid kx6
 clear t6 kx6
 have HRr:=hid (rrun_any (.slice au l capu) HT6.out.rw (HU.out.later HB2.out) (by rw [HL.out]; omega) HR.out (by rw [HL.out]; omega))
 go_wp2_with fail
 refine HRr.out.mono ?_
 rintro e w7 ⟨u7,D7,Y7,rfl,h7⟩
 have Hk7:=hid h7.kept
 obtain ⟨hw7,ho7⟩:=h7.all
 have HO7:=hid ho7
 clear h7 ho7
 obtain ⟨Dp,Yp,t7,ky7,-,-⟩:=HT6.out.doc hw7
 clear hw7
 have HT7:=hid t7
 have HKy:=hid ky7
 clear t7 ky7
 have HO67:=hid (own_kept HO6.out Hk7.out (fun g hg e=>by
  have h1:=HO6.out.lt g hg
  have h2:D g<2000:=e
  have h3:=Hlt5.out g h2
  omega))
 obtain ⟨LA,HLA⟩:∃ LA,Hid (runA zs vs newX=LA):=⟨_,rfl⟩
 have HLl:Hid (LA.length=l):=by rw [← HLA.out,runA_length,HL.out]; exact rfl
 rw [HLA.out,HL.out,← HLl.out] at HO67 HO7
 have HSame:=hid (sameI_yes u6 u7 LA w7 (IsSl.owned HO67.out (by rw [HLl.out]; unfold maxLen; omega)) (IsSl.owned HO7.out (by rw [HLl.out]; unfold maxLen; omega)) (by rw [HLl.out]; omega))
 go_wp2_with fail
 refine HSame.out.mono ?_
 rintro e w7b ⟨rfl,hb7⟩
 rw [HL.out] at HT7
 have HT7b:=hid (HT7.out.later hb7)
 clear hb7
 have HAs:=hid (asWorld_any HT7b.out.wd HT7b.out.rw (HE.out.later HB2.out) (by omega))
 rw [key_xb HKx.out,rkey_xb HKy.out] at HAs
 go_wp2_with fail
 refine HAs.out.mono ?_
 rintro e w8 ⟨rfl,hb8⟩
 have HT8:=hid (HT7b.out.later hb8)
 clear hb8
 have HB8:=hid (below_trans HB2.out HT8.out.wd.bel)
 have HRo:=hid (rounds_no set n HT8.out.wd (HE.out.later HB2.out) (by omega))
 rw [key_xb HKx.out] at HRo
 go_wp2_with fail
 refine HRo.out.mono ?_
 rintro e w8b ⟨rfl,hb8b⟩
 have HT8b:=hid (HT8.out.later hb8b)
 have HB8b:=hid (below_trans HB8.out hb8b)
 clear hb8b
 have HCo:=hid (coded_ev A 2 w8b (HE.out.later HB8b.out) (by omega))
 go_wp2_with fail
 refine HCo.out.mono ?_
 rintro e w9 ⟨rfl,hb9⟩
 have HT9:=hid (HT8b.out.later hb9)
 have HB9:=hid (below_trans HB8b.out hb9)
 clear hb9
 have HAs2:=hid (asWorld_any HT9.out.wd HT9.out.rw (HE.out.later HB2.out) (by omega))
 rw [key_xb HKx.out,rkey_xb HKy.out] at HAs2
 go_wp2_with fail
 refine HAs2.out.mono ?_
 rintro e w10 ⟨rfl,hb10⟩
 have HB10:=hid (below_trans HB9.out hb10)
 clear hb10
 go_wp2_with fail
 go_ret
 exact ⟨rfl,HB10.out⟩
theorem pruns_d (hNew:NewOk) (A:Nat→Addr) (av au:Option Addr) (capv capu nz l:Nat) (zs vs:List Int) (set n:Int) (w:World) (hE:Held9 w A) (hv:IsSl w (.slice av nz capv) zs) (hu:IsSl w (.slice au l capu) vs) (hr:∀ y,y∈vs→y≤9223372036854775807) (hN:zs.length=nz) (hL:vs.length=l) (he:errW zs=0) (h200:l≤200) (q0:¬ set<0) (_q1:¬ 3<n) (q3:n<0) :
  Calls Tryz.prog 7 #[.slice av nz capv,.slice au l capu,.int .i64 set,.int .i64 n] w fun e w'=>e=.returned (.bool true)∧Below w.heap.size w w':=by
 have HE:=hid hE
 have HV:=hid hv
 have HU:=hid hu
 have HR:=hid hr
 have HNw:=hid hNew
 have HN:=hid hN
 have HL:=hid hL
 have HEr:=hid he
 have e200:¬ (200:Int)<(l:Int):=by omega
 obtain ⟨n1,n7,-,-⟩:=errW_zero he
 rw [HN.out] at n1 n7
 clear hE hr hNew hv hu hN hL he
 go_enter Tryz.func7,Tryz.ntmps7
 go_wp2_with fail
 refine (born_any A w HE.out).mono ?_
 rintro e w1 ⟨rfl,hb⟩
 have HB1:=hid hb
 have HWe:=hid (rErrN _ zs 0 w1 (HV.out.later hb) HEr.out)
 rw [show ((0:Nat):Int)=0 from rfl] at HWe
 have HOwn:=hid (ownInts_any _ zs w1 (HV.out.later hb) (by rw [HN.out]; omega))
 clear hb
 go_wp2_with fail
 refine HWe.out.mono ?_
 rintro e w2 ⟨rfl,hx⟩
 subst w2
 go_wp2_with fail
 refine HOwn.out.mono ?_
 rintro e w2 ⟨v2,rfl,hv2,hb2⟩
 have HV2:=hid hv2
 have HB2:=hid (below_trans HB1.out hb2)
 clear hv2 hb2
 have HNewW:=hid (wnew_ok v2 HV2.out (HE.out.later HB2.out) HEr.out)
 go_wp2_with fail
 refine HNewW.out.mono ?_
 rintro e w3 ⟨C,X,rfl,h3⟩
 have H3:=hid h3
 have HB3:=hid (below_trans HB2.out h3.bel)
 have HMod:=hid (HNw.out w3 av capv zs (by rw [HN.out]; exact HV.out.later HB3.out) HEr.out)
 rw [HN.out] at HMod
 clear h3
 go_wp2_with fail
 refine HMod.out.mono ?_
 rintro e w4 ⟨D,Y,rfl,h4⟩
 have HT4:=hid (two_new H3.out h4 (by rw [HN.out]; exact HV.out.later HB2.out))
 clear h4
 have HB4:=hid (below_trans HB2.out HT4.out.wd.bel)
 have HOw2:=hid (ownInts_long _ vs w4 (HU.out.later HB4.out) (by rw [HL.out]; omega))
 go_wp2_with fail
 refine HOw2.out.mono ?_
 rintro e w5 ⟨v5,rfl,ho5,hb5⟩
 have HT5:=hid (HT4.out.later hb5)
 have HRun:=hid (run_any v5 w4.heap.size HT5.out.wd (HE.out.later HB2.out) ho5 (by rw [HL.out]; omega) HR.out (by rw [HL.out]; omega) (own_newW HT4.out.wd ho5))
 clear ho5 hb5
 go_wp2_with fail
 refine HRun.out.mono ?_
 rintro e w6 ⟨u6,C6,X6,rfl,h6⟩
 obtain ⟨hw6,ho6,hp6⟩:=h6.all
 have HO6:=hid ho6
 have HP6:=hid hp6
 clear h6 ho6 hp6
 have Hlt5:Hid (∀ g,D g<2000→g<w5.heap.size):=HT5.out.rw.lt
 obtain ⟨Cp,Xp,t6,kx6,-,-⟩:=HT5.out.prog hw6
 clear hw6
 have HT6:=hid t6
 have HKx:=hid kx6
 clear t6 kx6
 have HRr:=hid (rrun_any (.slice au l capu) HT6.out.rw (HU.out.later HB2.out) (by rw [HL.out]; omega) HR.out (by rw [HL.out]; omega))
 go_wp2_with fail
 refine HRr.out.mono ?_
 rintro e w7 ⟨u7,D7,Y7,rfl,h7⟩
 have Hk7:=hid h7.kept
 obtain ⟨hw7,ho7⟩:=h7.all
 have HO7:=hid ho7
 clear h7 ho7
 obtain ⟨Dp,Yp,t7,ky7,-,-⟩:=HT6.out.doc hw7
 clear hw7
 have HT7:=hid t7
 have HKy:=hid ky7
 clear t7 ky7
 have HO67:=hid (own_kept HO6.out Hk7.out (fun g hg e=>by
  have h1:=HO6.out.lt g hg
  have h2:D g<2000:=e
  have h3:=Hlt5.out g h2
  omega))
 obtain ⟨LA,HLA⟩:∃ LA,Hid (runA zs vs newX=LA):=⟨_,rfl⟩
 have HLl:Hid (LA.length=l):=by rw [← HLA.out,runA_length,HL.out]; exact rfl
 rw [HLA.out,HL.out,← HLl.out] at HO67 HO7
 have HSame:=hid (sameI_yes u6 u7 LA w7 (IsSl.owned HO67.out (by rw [HLl.out]; unfold maxLen; omega)) (IsSl.owned HO7.out (by rw [HLl.out]; unfold maxLen; omega)) (by rw [HLl.out]; omega))
 go_wp2_with fail
 refine HSame.out.mono ?_
 rintro e w7b ⟨rfl,hb7⟩
 rw [HL.out] at HT7
 have HT7b:=hid (HT7.out.later hb7)
 clear hb7
 have HAs:=hid (asWorld_any HT7b.out.wd HT7b.out.rw (HE.out.later HB2.out) (by omega))
 rw [key_xb HKx.out,rkey_xb HKy.out] at HAs
 go_wp2_with fail
 refine HAs.out.mono ?_
 rintro e w8 ⟨rfl,hb8⟩
 have HT8:=hid (HT7b.out.later hb8)
 clear hb8
 have HB8:=hid (below_trans HB2.out HT8.out.wd.bel)
 have HRo:=hid (rounds_no set n HT8.out.wd (HE.out.later HB2.out) (by omega))
 rw [key_xb HKx.out] at HRo
 go_wp2_with fail
 refine HRo.out.mono ?_
 rintro e w8b ⟨rfl,hb8b⟩
 have HT8b:=hid (HT8.out.later hb8b)
 have HB8b:=hid (below_trans HB8.out hb8b)
 clear hb8b
 have HCo:=hid (coded_ev A 2 w8b (HE.out.later HB8b.out) (by omega))
 go_wp2_with fail
 refine HCo.out.mono ?_
 rintro e w9 ⟨rfl,hb9⟩
 have HT9:=hid (HT8b.out.later hb9)
 have HB9:=hid (below_trans HB8b.out hb9)
 clear hb9
 have HAs2:=hid (asWorld_any HT9.out.wd HT9.out.rw (HE.out.later HB2.out) (by omega))
 rw [key_xb HKx.out,rkey_xb HKy.out] at HAs2
 go_wp2_with fail
 refine HAs2.out.mono ?_
 rintro e w10 ⟨rfl,hb10⟩
 have HB10:=hid (below_trans HB9.out hb10)
 clear hb10
 go_wp2_with fail
 go_ret
 exact ⟨rfl,HB10.out⟩
theorem pruns_e (hNew:NewOk) (A:Nat→Addr) (av au:Option Addr) (capv capu nz l:Nat) (zs vs:List Int) (set n:Int) (w:World) (hE:Held9 w A) (hv:IsSl w (.slice av nz capv) zs) (hu:IsSl w (.slice au l capu) vs) (hr:∀ y,y∈vs→y≤9223372036854775807) (hN:zs.length=nz) (hL:vs.length=l) (he:errW zs=0) (h200:l≤200) (k:Nat) (hkn:n=(k:Int)) (hs:set≤9223372036854775807) (q0:¬ set<0) (q1:¬ 3<n) (q3:¬ n<0) (q4:¬ 10<n) :
  Calls Tryz.prog 7 #[.slice av nz capv,.slice au l capu,.int .i64 set,.int .i64 n] w fun e w'=>e=.returned (.bool true)∧Below w.heap.size w w':=by
 have HE:=hid hE
 have HV:=hid hv
 have HU:=hid hu
 have HR:=hid hr
 have HNw:=hid hNew
 have HN:=hid hN
 have HL:=hid hL
 have HEr:=hid he
 have e200:¬ (200:Int)<(l:Int):=by omega
 obtain ⟨n1,n7,-,-⟩:=errW_zero he
 rw [HN.out] at n1 n7
 clear hE hr hNew hv hu hN hL he
 subst hkn
 go_enter Tryz.func7,Tryz.ntmps7
 go_wp2_with fail
 refine (born_any A w HE.out).mono ?_
 rintro e w1 ⟨rfl,hb⟩
 have HB1:=hid hb
 have HWe:=hid (rErrN _ zs 0 w1 (HV.out.later hb) HEr.out)
 rw [show ((0:Nat):Int)=0 from rfl] at HWe
 have HOwn:=hid (ownInts_any _ zs w1 (HV.out.later hb) (by rw [HN.out]; omega))
 clear hb
 go_wp2_with fail
 refine HWe.out.mono ?_
 rintro e w2 ⟨rfl,hx⟩
 subst w2
 go_wp2_with fail
 refine HOwn.out.mono ?_
 rintro e w2 ⟨v2,rfl,hv2,hb2⟩
 have HV2:=hid hv2
 have HB2:=hid (below_trans HB1.out hb2)
 clear hv2 hb2
 have HNewW:=hid (wnew_ok v2 HV2.out (HE.out.later HB2.out) HEr.out)
 go_wp2_with fail
 refine HNewW.out.mono ?_
 rintro e w3 ⟨C,X,rfl,h3⟩
 have H3:=hid h3
 have HB3:=hid (below_trans HB2.out h3.bel)
 have HMod:=hid (HNw.out w3 av capv zs (by rw [HN.out]; exact HV.out.later HB3.out) HEr.out)
 rw [HN.out] at HMod
 clear h3
 go_wp2_with fail
 refine HMod.out.mono ?_
 rintro e w4 ⟨D,Y,rfl,h4⟩
 have HT4:=hid (two_new H3.out h4 (by rw [HN.out]; exact HV.out.later HB2.out))
 clear h4
 have HB4:=hid (below_trans HB2.out HT4.out.wd.bel)
 have HOw2:=hid (ownInts_long _ vs w4 (HU.out.later HB4.out) (by rw [HL.out]; omega))
 go_wp2_with fail
 refine HOw2.out.mono ?_
 rintro e w5 ⟨v5,rfl,ho5,hb5⟩
 have HT5:=hid (HT4.out.later hb5)
 have HRun:=hid (run_any v5 w4.heap.size HT5.out.wd (HE.out.later HB2.out) ho5 (by rw [HL.out]; omega) HR.out (by rw [HL.out]; omega) (own_newW HT4.out.wd ho5))
 clear ho5 hb5
 go_wp2_with fail
 refine HRun.out.mono ?_
 rintro e w6 ⟨u6,C6,X6,rfl,h6⟩
 obtain ⟨hw6,ho6,hp6⟩:=h6.all
 have HO6:=hid ho6
 have HP6:=hid hp6
 clear h6 ho6 hp6
 have Hlt5:Hid (∀ g,D g<2000→g<w5.heap.size):=HT5.out.rw.lt
 obtain ⟨Cp,Xp,t6,kx6,-,-⟩:=HT5.out.prog hw6
 clear hw6
 have HT6:=hid t6
 have HKx:=hid kx6
 clear t6 kx6
 have HRr:=hid (rrun_any (.slice au l capu) HT6.out.rw (HU.out.later HB2.out) (by rw [HL.out]; omega) HR.out (by rw [HL.out]; omega))
 go_wp2_with fail
 refine HRr.out.mono ?_
 rintro e w7 ⟨u7,D7,Y7,rfl,h7⟩
 have Hk7:=hid h7.kept
 obtain ⟨hw7,ho7⟩:=h7.all
 have HO7:=hid ho7
 clear h7 ho7
 obtain ⟨Dp,Yp,t7,ky7,-,-⟩:=HT6.out.doc hw7
 clear hw7
 have HT7:=hid t7
 have HKy:=hid ky7
 clear t7 ky7
 have HO67:=hid (own_kept HO6.out Hk7.out (fun g hg e=>by
  have h1:=HO6.out.lt g hg
  have h2:D g<2000:=e
  have h3:=Hlt5.out g h2
  omega))
 obtain ⟨LA,HLA⟩:∃ LA,Hid (runA zs vs newX=LA):=⟨_,rfl⟩
 have HLl:Hid (LA.length=l):=by rw [← HLA.out,runA_length,HL.out]; exact rfl
 rw [HLA.out,HL.out,← HLl.out] at HO67 HO7
 have HSame:=hid (sameI_yes u6 u7 LA w7 (IsSl.owned HO67.out (by rw [HLl.out]; unfold maxLen; omega)) (IsSl.owned HO7.out (by rw [HLl.out]; unfold maxLen; omega)) (by rw [HLl.out]; omega))
 go_wp2_with fail
 refine HSame.out.mono ?_
 rintro e w7b ⟨rfl,hb7⟩
 rw [HL.out] at HT7
 have HT7b:=hid (HT7.out.later hb7)
 clear hb7
 have HAs:=hid (asWorld_any HT7b.out.wd HT7b.out.rw (HE.out.later HB2.out) (by omega))
 rw [key_xb HKx.out,rkey_xb HKy.out] at HAs
 go_wp2_with fail
 refine HAs.out.mono ?_
 rintro e w8 ⟨rfl,hb8⟩
 have HT8:=hid (HT7b.out.later hb8)
 clear hb8
 have HB8:=hid (below_trans HB2.out HT8.out.wd.bel)
 obtain ⟨V8,HV8⟩:∃ V8,Hid (runX zs vs newX=V8):=⟨_,rfl⟩
 rw [HV8.out] at HT8 HP6
 have HP8:Hid (pot zs V8≤42000):=by
  change _≤_
  have h1:=HP6.out
  have h2:=potN_new zs
  rw [HL.out] at h1
  omega
 have HBd:Hid (0+42 * l+k * (294+3 * (pot zs V8+1470 * k))<700000):=by
  change _<_
  have h1:=HP8.out
  have h2:k=0 ∨ k=1 ∨ k=2 ∨ k=3:=by omega
  rcases h2 with h|h|h|h <;> rw [h] <;> omega
 have HRo:=hid (rounds_n (set:=set) k HT8.out.wd (HE.out.later HB2.out) (by omega) hs (by omega) HBd.out)
 rw [key_xb HKx.out] at HRo
 go_wp2_with fail
 refine HRo.out.mono ?_
 rintro e w9 ⟨rfl,-,ho9⟩
 obtain ⟨C9,X9,t9,kx9,-,-⟩:=HT8.out.prog ho9
 have HT9:=hid t9
 have HKx9:=hid kx9
 clear ho9 t9 kx9
 have HRd:=hid (rrounds_any (set:=set) k HT9.out.rw (by omega) hs (by omega) HBd.out)
 rw [rkey_xb HKy.out] at HRd
 obtain ⟨r,Hr⟩:∃ r,Hid (roundsN zs set k V8=r):=⟨_,rfl⟩
 rw [Hr.out] at HRd
 rw [Hr.out]
 go_wp2_with fail
 refine HRd.out.mono ?_
 rintro e w10 ⟨rfl,ho10⟩
 obtain ⟨D10,Y10,t10,ky10,-,-⟩:=HT9.out.doc ho10
 have HT10:=hid t10
 have HKy10:=hid ky10
 clear ho10 t10 ky10
 have HAs2:=hid (asWorld_any HT10.out.wd HT10.out.rw (HE.out.later HB2.out) (by omega))
 rw [key_xb HKx9.out,key_xb HKx.out,rkey_xb HKy10.out,rkey_xb HKy.out] at HAs2
 have HB10:=hid (below_trans HB2.out HT10.out.wd.bel)
 go_wp2_with fail
 refine HAs2.out.mono ?_
 rintro e w11 ⟨rfl,hb11⟩
 have HB11:=hid (below_trans HB10.out hb11)
 clear hb11
 go_wp2_with fail
 go_ret
 exact ⟨rfl,HB11.out⟩
end Go.Proofs.YtjcflddbaeiajacGreatDoor
