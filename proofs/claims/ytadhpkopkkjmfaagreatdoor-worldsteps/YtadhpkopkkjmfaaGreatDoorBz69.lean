/-
  On the way to WStepsProof: X5.
-/
import Derived.Test.YtadhpkopkkjmfaaGreatDoorBz64
set_option maxHeartbeats 8000000
set_option maxRecDepth 100000
namespace Go.Proofs.YtadhpkopkkjmfaaGreatDoor
open Go.RowKit
section
variable {w0 w w1 w':World} {C C':Nat→Nat} {K:RB} {Y:YB} {aw:Option Addr} {i n cap m m':Nat} {zs:List Int} {N:PN} {V V':PX}
theorem same_lead {w9:World} {C9:Nat→Nat} {Y9:YB} {s d:Nat} {x y:Int×PL} (h:RW w0 w C Y aw cap zs V m) (h9:RW w0 w9 C9 Y9 aw cap zs V' m') (hk:rkey Y9=rkey Y) (k:Kept (fun x=>C x=1001 ∨ C x=1005) w w9) (hs:s<zs.length) (hd:d<6) (hx:(V.nd s).ld d=some x) (hy:(V'.nd s).ld d=some y):(Y9.K s).lb d=(Y.K s).lb d:=by
 have n7:=h.n7.2
 have hN:=h.nds s hs
 have hN9:=h9.nds s hs
 obtain ⟨-,-,d2,-⟩:=hN.cells
 obtain ⟨-,-,e2,-⟩:=hN9.cells
 have c1:=hN.cn; have c2:=hN.cl
 have d3:=keptCell k d2 (fun q=>by have q':C (Y.K s).nd=1001 ∨ C (Y.K s).nd=1005:=q; omega)
 rw [rkey_nd hk,d3] at e2
 have el:(Y9.K s).ls=(Y.K s).ls:=by injection e2 with e2; injection e2 with e2; injection e2 with e2; injection e2 with e2; exact e2.symm
 have l1:=hN.lead hd
 have l2:=hN9.lead hd
 rw [rldV_some hx] at l1
 rw [rldV_some hy,el] at l2
 have l3:=keptCell k l1 (fun q=>by have q':C (Y.K s).ls=1001 ∨ C (Y.K s).ls=1005:=q; omega)
 rw [l3] at l2
 injection l2 with l2; injection l2 with l2; injection l2 with l2; injection l2 with l2
 exact l2.symm
theorem rtick_ok (s:Nat) (h:RW w0 w C Y aw cap zs V m) (hs:s<zs.length) (hu:upN (V.nd s)=true) (hm:m<900000) :
  Calls Tryz.prog 90 #[.pointer (some ⟨Y.xb,0,none⟩),.int .i64 (s:Int)] w fun e w'=>e=.returned (.int .i64 0)∧ROut w0 w w' C Y aw cap zs (tickX zs s 6 0 V) (m+42):=by
 have H:=hid h
 have HS:=hid hs
 have HU:=hid hu
 have HUp:=hid (rup_is (s:Int) 0 h (by unfold cUp; rw [if_pos ⟨by omega,by omega⟩,Int.toNat_natCast,if_pos hu]))
 obtain ⟨T,HT⟩:∃ T,Hid (tickX zs s 6 0 V=T):=⟨_,rfl⟩
 rw [HT.out]
 obtain ⟨-,c1,-,-,-⟩:=h.cells
 have cn:=h.ns s hs
 have n7:=h.n7
 obtain ⟨z,hz⟩:∃ z,Hid (zs.length=z):=⟨_,rfl⟩
 rw [hz.out] at c1 hs n7
 have hsz:¬ ((z:Int)≤(s:Int)):=by omega
 clear h hu
 go_enter Tryz.func90,Tryz.ntmps90
 go_wp2_with fail
 refine HUp.out.mono ?_
 rintro e w1 ⟨rfl,hx⟩
 subst w1
 go_wp2_with fail
 clear c1 cn
 go_loopw [7] (fun v wr=>∃ (q:Nat) (Vq:PX),q≤6∧v=.int .i64 (q:Int)∧Hid (tickX zs s (6 - q) q Vq=T)∧Hid (upN (Vq.nd s)=true)∧ROut w0 w wr C Y aw cap zs Vq (m+7 * q)) (fun v _=>6 - (intOf v).toNat)
 case atStart=>exact ⟨0,V,Nat.zero_le _,rfl,HT.out,HU.out,H.out.out (Below.refl _ _) (by omega)⟩
 case round =>
  obtain ⟨q,Vq,hq,rfl,HTq,HUq,C1,Y1,g1,g2,g3,g4⟩:=hrel
  rename_i wr
  have HG:=hid (And.intro g1 (And.intro g2 (And.intro g3 g4)))
  clear g1 g2 g3 g4
  by_cases hlt:q<6
  ·obtain ⟨⟨h1,h2,h3⟩,HST⟩:∃ x,Hid (stN (Vq.nd s) q=x):=⟨_,rfl⟩
   obtain ⟨d0,d1,⟨cs,d2⟩,s1,s2,s3⟩:=(HG.out.1.nds s HS.out).way HUq.out hlt HST.out
   rw [rkey_nd HG.out.2.1] at d0
   have HGd:Hid (h1≤5∧h2≤1048576):=by have:=(HG.out.1.inv.nd s HS.out).gd q hlt; have h4:(dlN (Vq.nd s) q).2=⟨h1,h2,h3⟩:=HST.out; rw [h4] at this; exact ⟨this.1,this.2.1⟩
   obtain ⟨W3,HW3⟩:∃ W3,Hid (wr.alloc (.cells #[.int .i64 (h1:Int),.int .i64 (h2:Int),.int .i64 (h3:Int)] 43)=W3):=⟨_,rfl⟩
   have hW3:=HW3.out
   have HB3:Hid (Below wr.heap.size wr W3):=by rw [← HW3.out]; exact (Below.refl _ _).alloc (Nat.le_refl _) _
   have HR3:Hid (W3.heap[wr.heap.size]? = some (.cells #[.int .i64 (h1:Int),.int .i64 (h2:Int),.int .i64 (h3:Int)] 43 (0,0))):=by rw [← HW3.out]; exact heap_alloc_new wr _
   have a0:W3.cell? ⟨wr.heap.size,0,none⟩=some (.int .i64 (h1:Int)):=by rw [cell_of_row _ _ _ _ _ _ HR3.out]; rfl
   have a1:W3.cell? ⟨wr.heap.size,1,none⟩=some (.int .i64 (h2:Int)):=by rw [cell_of_row _ _ _ _ _ _ HR3.out]; rfl
   have a2:W3.cell? ⟨wr.heap.size,2,none⟩=some (.int .i64 (h3:Int)):=by rw [cell_of_row _ _ _ _ _ _ HR3.out]; rfl
   have H3:=hid (HG.out.1.later HB3.out)
   have HO3:Hid (ROut w0 w W3 C Y aw cap zs Vq (m+7 * q)):=⟨C1,Y1,H3.out,HG.out.2.1,HG.out.2.2.1.trans (Kept.of_below HB3.out),HG.out.2.2.2⟩
   have HNew:Hid (2000≤C1 wr.heap.size):=by
    rcases Nat.lt_or_ge (C1 wr.heap.size) 2000 with p|p
    ·have:=HG.out.1.lt _ p; omega
    ·exact p
   have HXB:Hid (Y1.xb=Y.xb):=rkey_xb HG.out.2.1
   have HND:Hid ((Y1.K s).nd=(Y.K s).nd):=rkey_nd HG.out.2.1 s
   by_cases hzz:h1=0∧h2=0∧h3=0
   ·have hcmp:∀ w,(binOp .eql 43 (.agg #[.int .i64 (h1:Int),.int .i64 (h2:Int),.int .i64 (h3:Int)]) (.agg #[.int .i64 0,.int .i64 0,.int .i64 0])).run Tryz.prog w=.ok (.bool true) w:=st_is0 h1 h2 h3 true (decide_eq_true hzz)
    have HT4:Hid (tickX zs s (6 - (q+1)) (q+1) Vq=T):=by
     have e:tickD zs Vq s q=Vq:=by unfold tickD; exact if_pos (by rw [HST.out,hzz.1,hzz.2.1,hzz.2.2]; rfl)
     have:=HTq.out
     rw [tickX_step s hlt,e,if_pos HUq.out] at this; exact this
    clear hzz
    go_wp2_with fail
    go_roundw
    case rel=>exact ⟨q+1,Vq,by omega,by go_num,HT4.out,HUq.out,HO3.out.mono (by omega)⟩
    case measure=>simp [intOf]; omega
   ·have hcmp:∀ w,(binOp .eql 43 (.agg #[.int .i64 (h1:Int),.int .i64 (h2:Int),.int .i64 (h3:Int)]) (.agg #[.int .i64 0,.int .i64 0,.int .i64 0])).run Tryz.prog w=.ok (.bool false) w:=st_is0 h1 h2 h3 false (decide_eq_false hzz)
    have HNZ:Hid (¬ stN (Vq.nd s) q=St.zero):=fun e=>hzz (by rw [HST.out] at e; cases e; exact ⟨rfl,rfl,rfl⟩)
    clear hzz
    obtain ⟨b,HBb⟩:∃ b,Hid (finB h1=b):=⟨_,rfl⟩
    have HFi:=hid (fun w=>rfinal_is h1 b w HBb.out)
    obtain ⟨c0,c1,-,-,-⟩:=H3.out.cells
    rw [HXB.out,hz.out] at c0 c1
    cases b with
    | true =>
     have HTd:Hid (tickD zs Vq s q=sendX Vq (toL s q 7 h2 h1 z)):=by
      unfold tickD
      rw [HST.out,hz.out]
      have:¬ (⟨h1,h2,h3⟩:St)=St.zero:=by rw [← HST.out]; exact HNZ.out
      rw [if_neg this,if_pos HBb.out]; exact rfl
     have HT4:Hid (tickX zs s (6 - (q+1)) (q+1) (sendX Vq (toL s q 7 h2 h1 z))=T):=by
      have:=HTq.out
      rw [tickX_step s hlt,HTd.out,if_pos (show upN ((sendX Vq (toL s q 7 h2 h1 z)).nd s)=true from HUq.out)] at this; exact this
     have HF7:Hid ((∀ f,f∈toL s q 7 h2 h1 z→FI zs.length f)∧(toL s q 7 h2 h1 z).length≤1000):=by
      have g:=HGd.out
      refine ⟨?_,by rw [toL_length]; omega⟩
      rw [hz.out]
      exact toL_fi hs n7.2 hlt (by decide) ⟨by omega,by omega⟩ ⟨by omega,by omega⟩ z (Nat.le_refl _)
     have HNw:=hid (fun w=>rlnew_any s z cap (q:Int) (h2:Int) aw w)
     go_wp2_with fail
     refine (HFi.out _).mono ?_
     rintro e w4 ⟨rfl,hx4⟩
     subst w4
     go_wp2_with fail
     go_region_held3 (fun V=>V.cell? ⟨Y.xb,0,none⟩=some (.slice aw z cap)∧V.cell? ⟨wr.heap.size,1,none⟩=some (.int .i64 (h2:Int))) (go_keep) (first|(go_at_call 121; (with_reducible refine (HNw.out _).mono ?_); rintro e w5 ⟨lb,rfl,hl5,hb5,hlb⟩; have q0:=cell_later hb5 c0; have q1:=cell_later hb5 a1; have HL5:=hid hl5; have HB5:=hid hb5; clear hl5 hb5 hlb))
     have p0:=cell_later HB5.out a0
     have HSd:=hid (rlsend_any lb s z cap (q:Int) 7 (h2:Int) (h1:Int) true aw _ _ _ _ _ w5 HL5.out.row (by omega))
     rw [sent_to] at HSd
     go_wp2_with fail
     refine HSd.out.mono ?_
     rintro e w6 ⟨v,rfl,hv6,hb6⟩
     have HB6:Hid (Below W3.heap.size W3 w6):=((Below.refl _ W3).drew.trans HB5.out).trans (hb6.mono HB5.out.size)
     have HSe:=hid (rsend_any v _ (H3.out.later HB6.out) (IsFr.owned hv6) HF7.out.1 HF7.out.2 (by omega))
     rw [HXB.out] at HSe
     clear hv6 hb6 q0 q1 p0
     go_wp2_with fail
     refine HSe.out.mono ?_
     rintro e w7 ⟨rfl,ho7⟩
     have HO7:=hid ho7
     clear ho7
     go_wp2_with fail
     go_roundw
     case rel=>exact ⟨q+1,_,by omega,by go_num,HT4.out,HUq.out,(ROut.step HG.out.2.1 (HG.out.2.2.1.trans (Kept.of_below (HB3.out.trans (HB6.out.mono HB3.out.size)))) HG.out.2.2.2 HO7.out).mono (by omega)⟩
     case measure=>simp [intOf]; omega
    | false =>
     have HTd:Hid (tickD zs Vq s q=tryX zs Vq s q (attemptX zs.length s (aboveN (Vq.nd s) q))):=by
      unfold tickD
      rw [HST.out]
      have:¬ (⟨h1,h2,h3⟩:St)=St.zero:=by rw [← HST.out]; exact HNZ.out
      rw [if_neg this,if_neg (by rw [HBb.out]; decide)]; exact rfl
     have HN3:=hid (H3.out.nds s HS.out)
     have hab:=aboveN_bd (HG.out.1.inv.nd s HS.out) hlt
     obtain ⟨ab,HAb⟩:∃ ab,Hid (aboveN (Vq.nd s) q=ab):=⟨_,rfl⟩
     rw [HAb.out] at hab
     obtain ⟨-,-,l2,-⟩:=HN3.out.cells
     rw [HND.out] at l2
     have l3:=HN3.out.lead hlt
     have hwr:IntKind.i64.wrap (ab+1)=ab+1:=by rw [IntKind.wrap_i64]; omega
     have hzp:(0:Int)<(z:Int):=by omega
     have hz0:¬ ((z:Int)=0):=by omega
     obtain ⟨fr,HFr⟩:∃ fr,Hid (farI z s (ab+1)=fr):=⟨_,rfl⟩
     have hfb:=farI_bd (n:=z) (s:=s) (a:=ab+1) (by omega)
     rw [HFr.out] at hfb
     have HIs:Hid (∀ j:Int,0≤j→j≤fr→((ab+1+j) % z=s ↔ j=fr)):=fun j j0 j1=>by
      have:=farI_is (n:=z) (s:=s) (a:=ab+1) (j:=j) hs j0 (by rw [HFr.out]; exact j1)
      rw [HFr.out] at this
      exact this
     have HAt:Hid (attemptX zs.length s (aboveN (Vq.nd s) q)=ab+1+fr):=by rw [hz.out,HAb.out,attemptX_far,HFr.out]; exact rfl
     obtain ⟨p,hp⟩:∃ p:Int,Hid ((h2:Int)=p):=⟨_,rfl⟩
     rw [hp.out] at a1
     simp only [hp.out] at hcmp
     have HLd:Hid ((Vq.nd s).ld q=none∧p=ab ∨ ∃ x,(Vq.nd s).ld q=some x∧((x.2.seen≤p∧p=ab) ∨ (p<x.2.seen∧x.2.seen=ab))):=by
      have e:=HAb.out
      unfold aboveN at e
      have e2:(stN (Vq.nd s) q).pr=h2:=by rw [HST.out]
      rw [e2,hp.out] at e
      cases hx:(Vq.nd s).ld q with
      | none=>rw [hx] at e; exact .inl ⟨rfl,e⟩
      | some x =>
       rw [hx] at e
       simp only at e
       refine .inr ⟨x,rfl,?_⟩
       omega
     have HSeen:Hid (∀ x,(Vq.nd s).ld q=some x→W3.cell? ⟨(Y1.K s).lb q,8,none⟩=some (.int .i64 x.2.seen)):=fun x hx=>by
      obtain ⟨L,r1,r2⟩:=HN3.out.lds q hlt x hx
      rw [r1.seen]
      exact r2.cells.2.2.2.2.2.2.2.2
     rcases HLd.out with ⟨hx,he⟩|⟨x,hx,(⟨hle,he⟩|⟨hgt,he⟩)⟩
     all_goals first
      | (rw [rldV_none hx] at l3; rw [he] at a1; simp only [he] at hcmp; clear hx he)
      | (rw [rldV_some hx] at l3; have l8:=HSeen.out x hx; obtain ⟨sn,hsn⟩:∃ sn,Hid (x.2.seen=sn):=⟨_,rfl⟩; rw [hsn.out] at l8 hle; have hng:¬ (ab<sn):=(by omega); rw [he] at a1; simp only [he] at hcmp; clear hx hle he)
      | (rw [rldV_some hx] at l3; have l8:=HSeen.out x hx; rw [he] at l8 hgt; clear hx he)
     all_goals
      go_wp2_with fail
      refine (HFi.out _).mono ?_
      rintro e w4 ⟨rfl,hx4⟩
      subst w4
      go_wp2_with fail
      go_loopw [11] (fun v wx=>∃ j:Int,0≤j∧j≤fr∧v=.int .i64 (ab+1+j)∧wx=W3) (fun v _=>(ab+1+fr - intOf v).toNat)
      case atStart=>exact ⟨0,Int.le_refl _,hfb.1,by simp,rfl⟩
      case round =>
       obtain ⟨j,j0,j1,rfl,hxw⟩:=hrel
       rw [hxw]
       clear hxw
       have HJ:=hid (HIs.out j j0 j1)
       have hwj:IntKind.i64.wrap (ab+1+j+1)=ab+1+j+1:=by rw [IntKind.wrap_i64]; omega
       have htm:(ab+1+j).tmod (z:Int)=(ab+1+j) % (z:Int):=rem_is (by omega)
       by_cases hjf:j=fr
       ·have hne:((ab+1+j) % (z:Int) != (s:Int))=false:=by rw [HJ.out.2 hjf]; simp
        obtain ⟨an,han⟩:∃ an:Nat,ab+1+j=(an:Int):=⟨(ab+1+j).toNat,by omega⟩
        have HAn:Hid (attemptX zs.length s (aboveN (Vq.nd s) q)=(an:Int)):=by rw [HAt.out,← hjf]; exact han
        rw [han] at hne htm ⊢
        have HA1:Hid (1≤an):=by show 1≤an; omega
        clear hjf hwj HJ
        by_cases hbig:1048576<an
        ·have hbi:(1048576:Int)<(an:Int):=by omega
         have HT4:Hid (tickX zs s (6 - (q+1)) (q+1) Vq=T):=by
          have e:tickD zs Vq s q=Vq:=by rw [HTd.out,HAn.out]; unfold tryX; exact if_pos hbi
          have:=HTq.out
          rw [tickX_step s hlt,e,if_pos HUq.out] at this; exact this
         clear hbig han
         go_wp2_with fail
         refine ⟨⟨q+1,Vq,by omega,by go_num,HT4.out,HUq.out,HO3.out.mono (by omega)⟩,?_⟩
         simp [intOf]; omega
        ·have hbi:¬ ((1048576:Int)<(an:Int)):=by omega
         clear han
         have hai:an≤1048576:=by omega
         have HAI:=hid hai
         have HBI:Hid ((an:Int)≤1048576):=by show (an:Int)≤1048576; omega
         have HFI:Hid (FI zs.length (electF s q an)):=electF_fi HS.out (by rw [hz.out]; exact n7.2) hlt ⟨by omega,by omega⟩
         have hl2:(Vq.nd s).l≠-2:=by have:=HUq.out; unfold upN at this; simpa using this
         have HEl:=hid (elect_ans (H3.out.inv.nd s HS.out) hl2 HFI.out (by omega))
         obtain ⟨b,HBu⟩:∃ b,Hid (upN (hearN (Vq.nd s) (electF s q an))=b):=⟨_,rfl⟩
         have HHe:Hid (Calls Tryz.prog 125 #[.pointer (some ⟨Y.xb,0,none⟩),.int .i64 (s:Int),frV (s:Int) (s:Int) (q:Int) 3 (an:Int) false 0 0 0] W3 fun e w'=>∃ v,e=.returned (.tuple #[v,.bool b])∧ROutF w0 W3 w' C1 Y1 aw cap zs (hearX Vq s (electF s q an)) (m+7 * q+1) v (ansN s (Vq.nd s) (electF s q an))):=by
          have:=rwhear_any (w:=W3) s q 3 an 0 0 0 false (electF s q an) rfl H3.out HS.out HUq.out HFI.out (by omega)
          rw [HXB.out,HBu.out] at this
          exact this
         clear hbig hl2 hai
         go_wp2_with fail
         refine HHe.out.mono ?_
         rintro e w5 ⟨v,rfl,C5,Y5,g1,g2,g3,g4,g5⟩
         have HG5:=hid (And.intro g1 (And.intro g2 (And.intro g3 g4)))
         have HF5:=hid g5
         clear g1 g2 g3 g4 g5
         have HTry:Hid (tickD zs Vq s q=tryX zs Vq s q an):=by rw [HTd.out,HAn.out]; exact rfl
         cases b with
         | false =>
          have HTe:Hid (T=hearX Vq s (electF s q an)):=by
           have e1:tryX zs Vq s q an=hearX Vq s (electF s q an):=by unfold tryX; rw [if_neg (Int.not_lt.2 HBI.out),if_pos HBu.out]
           have:=HTq.out
           rw [tickX_step s hlt,HTry.out,e1,if_neg (by rw [hearX_nd,HBu.out]; decide)] at this
           exact this.symm
          go_wp2_with fail
          go_ret
          refine ⟨rfl,?_⟩
          rw [HTe.out]
          refine ROut.step HG.out.2.1 (HG.out.2.2.1.trans (Kept.of_below HB3.out)) HG.out.2.2.2 ?_
          exact ROut.mono ⟨C5,Y5,HG5.out.1,HG5.out.2.1,HG5.out.2.2.1,HG5.out.2.2.2⟩ (by omega)
         | true =>
          obtain ⟨f0,HA0⟩:∃ f0,Hid (ansN s (Vq.nd s) (electF s q an)=[f0]):=by
           rcases HEl.out with ⟨e1,-⟩|⟨-,f0,e1⟩
           ·rw [HBu.out] at e1; cases e1
           ·exact ⟨f0,e1⟩
          rw [HA0.out] at HF5
          have HT4:Hid (tickX zs s (6 - (q+1)) (q+1) (tryX zs Vq s q an)=T∧upN ((tryX zs Vq s q an).nd s)=true):=by
           have e2:upN ((tryX zs Vq s q an).nd s)=true:=by
            unfold tryX
            rw [if_neg (Int.not_lt.2 HBI.out),if_neg (by rw [HBu.out]; decide)]
            have e3:∀ (W:PX) (M:PN) (L:List F9),(sendX (setNd W s M) L).nd s=M:=fun W M L=>by simp [sendX,setNd]
            rw [e3]
            exact HBu.out
           have:=HTq.out
           rw [tickX_step s hlt,HTry.out,if_pos e2] at this
           exact ⟨this,e2⟩
          have HTeq:=hid (try_eq s q (an:Int) f0 HA0.out (Int.not_lt.2 HBI.out) HBu.out (zs:=zs))
          have HV1:Hid ((hearX Vq s (electF s q an)).nd s=hearN (Vq.nd s) (electF s q an)):=hearX_nd _ _ _
          have HU1:Hid (upN ((hearX Vq s (electF s q an)).nd s)=true):=by rw [HV1.out]; exact HBu.out
          have HXB5:Hid (Y5.xb=Y.xb):=(rkey_xb HG5.out.2.1).trans HXB.out
          have HND5:Hid ((Y5.K s).nd=(Y.K s).nd):=(rkey_nd HG5.out.2.1 s).trans HND.out
          obtain ⟨x0,x1,-,-,-⟩:=HG5.out.1.cells
          rw [HXB5.out,hz.out] at x0 x1
          have HNw:=hid (fun w=>rlnew_any s z cap (q:Int) (an:Int) aw w)
          obtain ⟨av,cv,hv,hfl,-⟩:=HF5.out
          obtain ⟨b9,off9,hav,-⟩:=hfl 0 (by simp)
          rw [hav,show [f0].length=1 from rfl] at hv
          subst hv
          clear hfl hav
          go_wp2_with fail
          refine (HNw.out _).mono ?_
          rintro e w6 ⟨lb,rfl,hl6,hb6,hlb⟩
          have HL6:=hid (And.intro hl6 hlb)
          have HB6:=hid hb6
          have HR6:=hid (HG5.out.1.later hb6)
          obtain ⟨-,-,l2',-⟩:=(HR6.out.nds s HS.out).cells
          rw [HND5.out] at l2'
          have l3':=(HR6.out.nds s HS.out).lead hlt
          have f3:w6.frozen? ⟨(Y5.K s).ls,q,none⟩=false:=frozen_of_row _ _ _ _ _ (HR6.out.nds s HS.out).lrow
          obtain ⟨W7,HW7⟩:∃ W7,Hid (w6.setCell ⟨(Y5.K s).ls,q,none⟩ (.pointer (some ⟨lb,0,none⟩))=W7):=⟨_,rfl⟩
          have hW7:=HW7.out
          clear hl6 hb6 hlb x0 x1
          have HFf0:Hid (FI zs.length f0):=by
           have hl2:(Vq.nd s).l≠-2:=by have:=HUq.out; unfold upN at this; simpa using this
           have:=(arriveO_fi (F:=electF s q an) H3.out.inv (by show (Vq.nd ((s:Int)).toNat).l≠-2; rw [Int.toNat_natCast]; exact hl2) HFI.out (by omega)).1 f0
           refine this ?_
           have e1:¬ isAns (electF s q an).k=true:=by show ¬ decide ((3:Int)=2 ∨ (3:Int)=4 ∨ (3:Int)=6)=true; decide
           unfold arriveO
           rw [if_neg e1]
           show f0∈ansN ((s:Int)).toNat (Vq.nd ((s:Int)).toNat) (electF s q an)
           rw [Int.toNat_natCast,HA0.out]
           exact List.mem_singleton.2 rfl
          have HN7:Hid (∃ C7 Y7,RW w0 W7 C7 Y7 aw cap zs (setNd (hearX Vq s (electF s q an)) s (setLd ((hearX Vq s (electF s q an)).nd s) q ((an:Int),P0))) (m+7 * q+1)∧rkey Y7=rkey Y5∧(Y7.K s).lb q=lb∧Kept (OwnX C5) w5 W7∧(∀ x,x<w5.heap.size→C7 x=C5 x)):=by
           have:=HG5.out.1.leadNew (m':=m+7 * q+1) (a:=(an:Int)) HS.out hlt HU1.out HB6.out (by rw [hz.out]; exact HL6.out.1) HL6.out.2 ⟨by omega,HBI.out⟩ (Nat.le_refl _)
           rw [HW7.out] at this
           obtain ⟨C7,y1,y2,y3,-⟩:=this
           exact ⟨C7,_,y1,rkey_K rfl,by simp [updK],y2,y3⟩
          obtain ⟨C7,Y7,hRW7,hRK7,hLB7,hK7,hC7⟩:=HN7.out
          have HRW7:=hid hRW7
          have HR7:=hid (And.intro hRK7 (And.intro hLB7 (And.intro hK7 hC7)))
          have HRL7:Hid (∃ L:LSt,RLd W7 lb s z cap (q:Int) (an:Int) aw (stB L.stt) L.wait ((Y7.K s).vh q) L.hs L.ph L.seen):=by
           obtain ⟨L,-,r2⟩:=(hRW7.nds s HS.out).lds q hlt ((an:Int),P0) (by simp [setNd,setLd])
           rw [hLB7,hz.out] at r2
           exact ⟨L,r2⟩
          obtain ⟨L7,hRL7⟩:=HRL7.out
          have HSt:=hid (rlstart_any hRL7 (by omega))
          rw [start_elects hs (by have:=HA1.out; omega)] at HSt
          have HEF:=hid (electL_fi (n:=zs.length) (s:=s) (d:=q) (a:=(an:Int)) HS.out (by rw [hz.out]; exact n7.2) hlt ⟨by omega,HBI.out⟩)
          rw [hz.out] at HEF
          clear hRW7 hRK7 hLB7 hK7 hC7 hRL7
          go_wp2_with fail
          refine HSt.out.mono ?_
          rintro e w8 ⟨vs,rfl,hv8,hb8⟩
          have HSe:=hid (rsend_kept vs _ (HRW7.out.later hb8) hv8 (by rw [hz.out]; exact HEF.out.1) HEF.out.2 (by omega))
          rw [rkey_xb HR7.out.1,HXB5.out] at HSe
          have HB8:=hid hb8
          clear hv8 hb8 l2' l3' f3
          go_wp2_with fail
          refine HSe.out.mono ?_
          rintro e w9 ⟨rfl,⟨C9,Y9,y1,y2,y3,y4⟩,hk9⟩
          have HG9:=hid (And.intro y1 (And.intro y2 (And.intro y3 y4)))
          have HLB9:Hid ((Y9.K s).lb q=lb):=(same_lead (HRW7.out.later HB8.out) y1 y2 hk9 HS.out hlt (x:=((an:Int),P0)) (y:=((an:Int),P0)) (by simp [setNd,setLd]) (by simp [sendX,setNd,setLd])).trans HR7.out.2.1
          have HF9:Hid (FrF w9 C9 W3.heap.size (.slice (some ⟨b9,off9,none⟩) 1 cv) [f0]):=((HF5.out.kept HR7.out.2.2.1 HR7.out.2.2.2).kept (Kept.of_below HB8.out) (fun _ _=>rfl)).kept y3 y4
          have HC9:Hid (w9.cell? ⟨b9,off9,none⟩=some (.int .i64 f0.f)∧w9.cell? ⟨b9,off9+1,none⟩=some (.int .i64 f0.t)∧w9.cell? ⟨b9,off9+2,none⟩=some (.int .i64 f0.d)∧w9.cell? ⟨b9,off9+3,none⟩=some (.int .i64 f0.k)∧w9.cell? ⟨b9,off9+4,none⟩=some (.int .i64 f0.a)∧w9.cell? ⟨b9,off9+5,none⟩=some (.bool f0.y)∧w9.cell? ⟨b9,off9+6,none⟩=some (.int .i64 f0.ph)∧w9.cell? ⟨b9,off9+7,none⟩=some (.int .i64 f0.pr)∧w9.cell? ⟨b9,off9+8,none⟩=some (.int .i64 f0.pa)):=by
           obtain ⟨ad',cp',e',fl9,-⟩:=HF9.out
           obtain ⟨b',o',e2,hc⟩:=fl9 0 (by simp)
           injection e' with e3
           rw [← e3] at e2
           injection e2 with e2
           injection e2 with e4 e5
           subst e4 e5
           exact nineO (x:=f0) (fun j hj=>by have:=hc j hj; rw [show off9+0 * 9+j=off9+j by omega] at this; exact this)
          clear y1 y2 y3 y4 hk9
          have HHr:Hid (Calls Tryz.prog 126 #[.pointer (some ⟨lb,0,none⟩),.agg #[.int .i64 f0.f,.int .i64 f0.t,.int .i64 f0.d,.int .i64 f0.k,.int .i64 f0.a,.bool f0.y,.int .i64 f0.ph,.int .i64 f0.pr,.int .i64 f0.pa]] w9 fun e w10=>∃ v10,e=.returned v10∧Calls Tryz.prog 122 #[.pointer (some ⟨Y.xb,0,none⟩),v10] w10 fun e w11=>e=.returned (.tuple #[])∧ROut w0 w w11 C Y aw cap zs (tryX zs Vq s q an) (m+7 * q+7)):=by
           obtain ⟨L9,hRel9,hRL9⟩:=(HG9.out.1.nds s HS.out).lds q hlt ((an:Int),P0) (by simp [sendX,setNd,setLd])
           obtain ⟨hce1,hce2⟩:=(HG9.out.1.nds s HS.out).ce q hlt ((an:Int),P0) (by simp [sendX,setNd,setLd])
           obtain ⟨vb,vo,haw,hvb,hvc⟩:=HG9.out.1.weights
           have hlo:=HG9.out.1.low
           have hpr:0≤f0.pr∧f0.pr≤1048576:=by have:=HFf0.out.ok.2.2.2.2.2.2.1; omega
           have n77:zs.length≤7:=by rw [hz.out]; exact n7.2
           have hh:=rlhear_all (w:=w9) (zs:=zs) (lb:=(Y9.K s).lb q) (id:=s) (cap:=cap) (vb:=vb) (vo:=vo) (deal:=q) (att:=(an:Int)) (vh:=(Y9.K s).vh q) (P:=P0) (L:=L9) f0 (by rw [← haw]; exact hRL9) hRel9 (by omega) (fun _=>hpr.1) HG9.out.1.inv.he hvc (fun e=>by have h5:=hlo ((Y9.K s).lb q) (by omega); omega) (fun e=>by have h6:=hce2 _ e; have h5:=hlo vb (by omega); omega)
           rw [HLB9.out] at hh
           refine hh.mono ?_
           rintro e w10 ⟨v10,vh',L',rfl,hv10,hr10,hl10,hk10,hg10⟩
           refine ⟨v10,rfl,?_⟩
           obtain ⟨e1,e2⟩:=leadX_at (zs:=zs) (i:=s) (d:=q) (F:=f0) (V:=sendX (setNd (hearX Vq s (electF s q an)) s (setLd ((hearX Vq s (electF s q an)).nd s) q ((an:Int),P0))) (electsL s q an z)) (x:=((an:Int),P0)) (by simp [sendX,setNd,setLd])
           have hNI:=((HG9.out.1.inv.nd s HS.out).hears (i:=s) (d:=q) (x:=((an:Int),P0)) (F:=f0) (by simp [sendX,setNd,setLd]) hRel9 n77 HFf0.out)
           have hlead:=HG9.out.1.leadOut (i:=s) (d:=q) (x:=((an:Int),P0)) HS.out hlt (by simp [sendX,setNd,setLd]) (by rw [HLB9.out]; exact hk10) hr10 (by rw [HLB9.out,haw]; exact hl10) hg10 (Nat.le_refl _) hNI
           obtain ⟨C10,Y10,u1,u2,u3,u4⟩:=hlead
           have hsend:=rsend_any v10 _ u1 hv10 (outL_fi (zs:=zs) (id:=s) (d:=q) (att:=(an:Int)) (P:=P0) (f:=f0) HS.out n77 hlt ⟨by omega,HBI.out⟩) (Nat.le_trans (outL_le _ _ _ _ _) (by omega)) (by omega)
           rw [rkey_xb u2,rkey_xb HG9.out.2.1,rkey_xb HR7.out.1,HXB5.out] at hsend
           refine hsend.mono ?_
           rintro e w11 ⟨rfl,ho⟩
           refine ⟨rfl,?_⟩
           have hte:=HTeq.out
           rw [hz.out,e1,e2] at hte
           rw [← hte]
           refine ROut.step HG.out.2.1 (HG.out.2.2.1.trans (Kept.of_below HB3.out)) HG.out.2.2.2 ?_
           refine ROut.step HG5.out.2.1 HG5.out.2.2.1 HG5.out.2.2.2 ?_
           refine ROut.step HR7.out.1 (HR7.out.2.2.1.trans (Kept.of_below HB8.out)) HR7.out.2.2.2 ?_
           refine ROut.step HG9.out.2.1 HG9.out.2.2.1 HG9.out.2.2.2 ?_
           exact (ROut.step u2 u3 u4 ho).mono (by omega)
          obtain ⟨t0,t1,t2,t3,t4,t5,t6,t7,t8⟩:=HC9.out
          go_wp2_with fail
          go_loopw [15] (fun v15 wx=>(v15=.int .i64 0∧wx=w9) ∨ (v15=.int .i64 1∧ROut w0 w wx C Y aw cap zs (tryX zs Vq s q an) (m+7 * q+7))) (fun v15 _=>2 - (intOf v15).toNat)
          case atStart=>exact .inl ⟨rfl,rfl⟩
          case round =>
           rcases hrel with ⟨rfl,hxw⟩|⟨rfl,hro⟩
           ·rw [hxw]
            clear hxw
            go_wp2_with fail
            refine HHr.out.mono ?_
            rintro e w10 ⟨v10,rfl,hse⟩
            go_wp2_with fail
            refine hse.mono ?_
            rintro e w11 ⟨rfl,ho⟩
            have HO:=hid ho
            clear hse ho
            go_wp2_with fail
            go_roundw
            case rel=>exact .inr ⟨by go_num,HO.out⟩
            case measure=>simp [intOf]
           ·have HO:=hid hro
            clear hro
            go_wp2_with fail
            refine ⟨⟨q+1,tryX zs Vq s q an,by omega,by go_num,HT4.out.1,HT4.out.2,HO.out.mono (by omega)⟩,?_⟩
            simp [intOf]; omega
       ·have hne:((ab+1+j) % (z:Int) != (s:Int))=true:=by
         have:¬ ((ab+1+j) % (z:Int)=(s:Int)):=fun e=>hjf (HJ.out.1 e)
         simpa using this
        have HJ2:=hid hjf
        clear hjf
        go_wp2_with fail
        go_roundw
        case rel=>exact ⟨j+1,by omega,by have:=HJ2.out; omega,by rw [show ab+1+(j+1)=ab+1+j+1 by omega],trivial⟩
        case measure=>simp [intOf]; have:=HJ2.out; omega
  ·obtain rfl:q=6:=by omega
   have HT6:Hid (Vq=T):=HTq.out
   clear HTq
   go_wp2_with fail
   go_ret
   refine ⟨rfl,?_⟩
   rw [← HT6.out]
   exact ⟨C1,Y1,HG.out.1,HG.out.2.1,HG.out.2.2.1,HG.out.2.2.2⟩
end
end Go.Proofs.YtadhpkopkkjmfaaGreatDoor
