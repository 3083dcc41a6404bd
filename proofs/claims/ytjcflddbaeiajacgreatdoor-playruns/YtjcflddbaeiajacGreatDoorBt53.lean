/-
  On the way to PRunsProof: N6B N6F.
-/
import Derived.Test.YtjcflddbaeiajacGreatDoorBt52
set_option maxHeartbeats 8000000
set_option maxRecDepth 100000
namespace Go.Proofs.YtjcflddbaeiajacGreatDoor
open Go.RowKit
theorem pruns_b (hNew:NewOk) (A:Nat→Addr) (av au:Option Addr) (capv capu nz l:Nat) (zs vs:List Int) (set n:Int) (w:World) (hE:Held9 w A) (hv:IsSl w (.slice av nz capv) zs) (hu:IsSl w (.slice au l capu) vs) (hr:∀ y,y∈vs→y≤9223372036854775807) (hN:zs.length=nz) (hL:vs.length=l) (he:errW zs=0) (h200:l≤200) (q0:set<0) (q1:¬ 3<n) :
  Calls Tryz.prog 7 #[.slice av nz capv,.slice au l capu,.int .i64 set,.int .i64 n] w fun e w'=>e=.returned (.bool true)∧Below w.heap.size w w':=by
 have HE:=hid hE
 have HV:=hid hv
 have HU:=hid hu
 have HR:=hid hr
 have HNw:=hid hNew
 have HN:=hid hN
 have HL:=hid hL
 have HEr:=hid he
 have e200:¬ (200:Int)<(l:Int):=by omega
 obtain ⟨n1,n7,-,-⟩:=errW_zero he
 rw [HN.out] at n1 n7
 clear hE hr hNew hv hu hN hL he
 go_enter Tryz.func7,Tryz.ntmps7
 go_wp2_with fail
 refine (born_any A w HE.out).mono ?_
 rintro e w1 ⟨rfl,hb⟩
 have HB1:=hid hb
 have HWe:=hid (rErrN _ zs 0 w1 (HV.out.later hb) HEr.out)
 rw [show ((0:Nat):Int)=0 from rfl] at HWe
 have HOwn:=hid (ownInts_any _ zs w1 (HV.out.later hb) (by rw [HN.out]; omega))
 clear hb
 go_wp2_with fail
 refine HWe.out.mono ?_
 rintro e w2 ⟨rfl,hx⟩
 subst w2
 go_wp2_with fail
 refine HOwn.out.mono ?_
 rintro e w2 ⟨v2,rfl,hv2,hb2⟩
 have HV2:=hid hv2
 have HB2:=hid (below_trans HB1.out hb2)
 clear hv2 hb2
 have HNewW:=hid (wnew_ok v2 HV2.out (HE.out.later HB2.out) HEr.out)
 go_wp2_with fail
 refine HNewW.out.mono ?_
 rintro e w3 ⟨C,X,rfl,h3⟩
 have H3:=hid h3
 have HB3:=hid (below_trans HB2.out h3.bel)
 have HMod:=hid (HNw.out w3 av capv zs (by rw [HN.out]; exact HV.out.later HB3.out) HEr.out)
 rw [HN.out] at HMod
 clear h3
 go_wp2_with fail
 refine HMod.out.mono ?_
 rintro e w4 ⟨D,Y,rfl,h4⟩
 have HT4:=hid (two_new H3.out h4 (by rw [HN.out]; exact HV.out.later HB2.out))
 clear h4
 have HB4:=hid (below_trans HB2.out HT4.out.wd.bel)
 have HOw2:=hid (ownInts_long _ vs w4 (HU.out.later HB4.out) (by rw [HL.out]; omega))
 go_wp2_with fail
 refine HOw2.out.mono ?_
 rintro e w5 ⟨v5,rfl,ho5,hb5⟩
 have HT5:=hid (HT4.out.later hb5)
 have HRun:=hid (run_any v5 w4.heap.size HT5.out.wd (HE.out.later HB2.out) ho5 (by rw [HL.out]; omega) HR.out (by rw [HL.out]; omega) (own_newW HT4.out.wd ho5))
 clear ho5 hb5
 go_wp2_with fail
 refine HRun.out.mono ?_
 rintro e w6 ⟨u6,C6,X6,rfl,h6⟩
 obtain ⟨hw6,ho6,hp6⟩:=h6.all
 have HO6:=hid ho6
 have HP6:=hid hp6
 clear h6 ho6 hp6
 have Hlt5:Hid (∀ g,D g<2000→g<w5.heap.size):=HT5.out.rw.lt
 obtain ⟨Cp,Xp,t6,kx6,-,-⟩:=HT5.out.prog hw6
 clear hw6
 have HT6:=hid t6
 have HKx:=hid kx6
 clear t6 kx6
 have HRr:=hid (rrun_any (.slice au l capu) HT6.out.rw (HU.out.later HB2.out) (by rw [HL.out]; omega) HR.out (by rw [HL.out]; omega))
 go_wp2_with fail
 refine HRr.out.mono ?_
 rintro e w7 ⟨u7,D7,Y7,rfl,h7⟩
 have Hk7:=hid h7.kept
 obtain ⟨hw7,ho7⟩:=h7.all
 have HO7:=hid ho7
 clear h7 ho7
 obtain ⟨Dp,Yp,t7,ky7,-,-⟩:=HT6.out.doc hw7
 clear hw7
 have HT7:=hid t7
 have HKy:=hid ky7
 clear t7 ky7
 have HO67:=hid (own_kept HO6.out Hk7.out (fun g hg e=>by
  have h1:=HO6.out.lt g hg
  have h2:D g<2000:=e
  have h3:=Hlt5.out g h2
  omega))
 obtain ⟨LA,HLA⟩:∃ LA,Hid (runA zs vs newX=LA):=⟨_,rfl⟩
 have HLl:Hid (LA.length=l):=by rw [← HLA.out,runA_length,HL.out]; exact rfl
 rw [HLA.out,HL.out,← HLl.out] at HO67 HO7
 have HSame:=hid (sameI_yes u6 u7 LA w7 (IsSl.owned HO67.out (by rw [HLl.out]; unfold maxLen; omega)) (IsSl.owned HO7.out (by rw [HLl.out]; unfold maxLen; omega)) (by rw [HLl.out]; omega))
 go_wp2_with fail
 refine HSame.out.mono ?_
 rintro e w7b ⟨rfl,hb7⟩
 rw [HL.out] at HT7
 have HT7b:=hid (HT7.out.later hb7)
 clear hb7
 have HAs:=hid (asWorld_any HT7b.out.wd HT7b.out.rw (HE.out.later HB2.out) (by omega))
 rw [key_xb HKx.out,rkey_xb HKy.out] at HAs
 go_wp2_with fail
 refine HAs.out.mono ?_
 rintro e w8 ⟨rfl,hb8⟩
 have HT8:=hid (HT7b.out.later hb8)
 clear hb8
 have HB8:=hid (below_trans HB2.out HT8.out.wd.bel)
 have HRo:=hid (rounds_no set n HT8.out.wd (HE.out.later HB2.out) (by omega))
 rw [key_xb HKx.out] at HRo
 go_wp2_with fail
 refine HRo.out.mono ?_
 rintro e w8b ⟨rfl,hb8b⟩
 have HT8b:=hid (HT8.out.later hb8b)
 have HB8b:=hid (below_trans HB8.out hb8b)
 clear hb8b
 have HCo:=hid (coded_ev A 2 w8b (HE.out.later HB8b.out) (by omega))
 go_wp2_with fail
 refine HCo.out.mono ?_
 rintro e w9 ⟨rfl,hb9⟩
 have HT9:=hid (HT8b.out.later hb9)
 have HB9:=hid (below_trans HB8b.out hb9)
 clear hb9
 have HAs2:=hid (asWorld_any HT9.out.wd HT9.out.rw (HE.out.later HB2.out) (by omega))
 rw [key_xb HKx.out,rkey_xb HKy.out] at HAs2
 go_wp2_with fail
 refine HAs2.out.mono ?_
 rintro e w10 ⟨rfl,hb10⟩
 have HB10:=hid (below_trans HB9.out hb10)
 clear hb10
 go_wp2_with fail
 go_ret
 exact ⟨rfl,HB10.out⟩
theorem pruns_any (hNew:NewOk) (A:Nat→Addr) (v u:Value) (zs vs:List Int) (set n:Int) (w:World) (hE:Held9 w A) (hv:IsSl w v zs) (hu:IsSl w u vs) (hr:∀ y,y∈vs→y≤9223372036854775807) (hs:set≤9223372036854775807) :
  Calls Tryz.prog 7 #[v,u,.int .i64 set,.int .i64 n] w fun e w'=>e=.returned (.bool true)∧Below w.heap.size w w':=by
 have HE:=hid hE
 have HV:=hid hv
 have HU:=hid hu
 have HR:=hid hr
 have HNw:=hid hNew
 obtain ⟨av,capv,rfl,hzm,-,-⟩:=hv
 obtain ⟨au,capu,rfl,hum,-,-⟩:=hu
 unfold maxLen at hzm hum
 obtain ⟨nz,HN⟩:∃ n,Hid (zs.length=n):=⟨_,rfl⟩
 obtain ⟨l,HL⟩:∃ l,Hid (vs.length=l):=⟨_,rfl⟩
 rw [HL.out] at hum HU ⊢
 rw [HN.out] at hzm HV ⊢
 clear hE hr hNew
 by_cases he:errW zs=0
 ·by_cases h200:(200:Int)<(l:Int)
  ·go_enter Tryz.func7,Tryz.ntmps7
   go_wp2_with fail
   refine (born_any A w HE.out).mono ?_
   rintro e w1 ⟨rfl,hb⟩
   have HB1:=hid hb
   have HWe:=hid (rErrN _ zs 0 w1 (HV.out.later hb) he)
   rw [show ((0:Nat):Int)=0 from rfl] at HWe
   clear hb
   go_wp2_with fail
   refine HWe.out.mono ?_
   rintro e w2 ⟨rfl,hx⟩
   subst w2
   go_wp2_with fail
   go_ret
   exact ⟨rfl,HB1.out⟩
  ·by_cases q1:3<n
   ·by_cases q2:n≤10
    ·go_enter Tryz.func7,Tryz.ntmps7
     go_wp2_with fail
     refine (born_any A w HE.out).mono ?_
     rintro e w1 ⟨rfl,hb⟩
     have HB1:=hid hb
     have HWe:=hid (rErrN _ zs 0 w1 (HV.out.later hb) he)
     rw [show ((0:Nat):Int)=0 from rfl] at HWe
     clear hb
     go_wp2_with fail
     refine HWe.out.mono ?_
     rintro e w2 ⟨rfl,hx⟩
     subst w2
     go_wp2_with fail
     go_ret
     exact ⟨rfl,HB1.out⟩
    ·by_cases q0:set<0
     ·exact pruns_a HNw.out A av au capv capu nz l zs vs set n w HE.out HV.out HU.out HR.out HN.out HL.out he (by omega) q0 q1 q2
     ·exact pruns_c HNw.out A av au capv capu nz l zs vs set n w HE.out HV.out HU.out HR.out HN.out HL.out he (by omega) q0 q1 q2 (by omega) (by omega)
   ·by_cases q0:set<0
    ·exact pruns_b HNw.out A av au capv capu nz l zs vs set n w HE.out HV.out HU.out HR.out HN.out HL.out he (by omega) q0 q1
    ·by_cases q3:n<0
     ·exact pruns_d HNw.out A av au capv capu nz l zs vs set n w HE.out HV.out HU.out HR.out HN.out HL.out he (by omega) q0 q1 q3
     ·obtain ⟨k,hk⟩:=Int.eq_ofNat_of_zero_le (show 0≤n by omega)
      exact pruns_e HNw.out A av au capv capu nz l zs vs set n w HE.out HV.out HU.out HR.out HN.out HL.out he (by omega) k hk hs q0 q1 q3 (by omega)
 ·obtain ⟨c,hc⟩:∃ c,errW zs=c+1:=⟨errW zs - 1,by omega⟩
  have hcp:(0:Int)<((c+1:Nat):Int):=by omega
  obtain ⟨c1,HC1⟩:∃ c1:Nat,Hid (c+1=c1):=⟨_,rfl⟩
  rw [HC1.out] at hc hcp
  go_enter Tryz.func7,Tryz.ntmps7
  go_wp2_with fail
  refine (born_any A w HE.out).mono ?_
  rintro e w1 ⟨rfl,hb⟩
  have HB1:=hid hb
  have HWe:=hid (rErrN _ zs c1 w1 (HV.out.later hb) hc)
  clear hb
  go_wp2_with fail
  refine HWe.out.mono ?_
  rintro e w2 ⟨rfl,hx⟩
  subst w2
  go_wp2_with fail
  go_ret
  exact ⟨rfl,HB1.out⟩
end Go.Proofs.YtjcflddbaeiajacGreatDoor
