/-
  On the way to SPlaysProof: X5 X6 X6B X6C.
-/
import Derived.Test.YtaehdgemkafinaaGreatDoorBw37
import Derived.Test.YtaehdgemkafinaaGreatDoorBw32
set_option maxHeartbeats 8000000
set_option maxRecDepth 100000
namespace Go.Proofs.YtaehdgemkafinaaGreatDoor
open Go.RowKit
section
variable {w0 w w1 w':World} {C C':Nat→Nat} {K:RB} {Y:YB} {aw:Option Addr} {i n cap m m':Nat} {zs:List Int} {N:PN} {V V':PX}
theorem same_lead {w9:World} {C9:Nat→Nat} {Y9:YB} {s d:Nat} {x y:Int×PL} (h:RW w0 w C Y aw cap zs V m) (h9:RW w0 w9 C9 Y9 aw cap zs V' m') (hk:rkey Y9=rkey Y) (k:Kept (fun x=>C x=1001 ∨ C x=1005) w w9) (hs:s<zs.length) (hd:d<6) (hx:(V.nd s).ld d=some x) (hy:(V'.nd s).ld d=some y):(Y9.K s).lb d=(Y.K s).lb d:=by
 have n7:=h.n7.2
 have hN:=h.nds s hs
 have hN9:=h9.nds s hs
 obtain ⟨-,-,d2,-⟩:=hN.cells
 obtain ⟨-,-,e2,-⟩:=hN9.cells
 have c1:=hN.cn; have c2:=hN.cl
 have d3:=keptCell k d2 (fun q=>by have q':C (Y.K s).nd=1001 ∨ C (Y.K s).nd=1005:=q; omega)
 rw [rkey_nd hk,d3] at e2
 have el:(Y9.K s).ls=(Y.K s).ls:=by injection e2 with e2; injection e2 with e2; injection e2 with e2; injection e2 with e2; exact e2.symm
 have l1:=hN.lead hd
 have l2:=hN9.lead hd
 rw [rldV_some hx] at l1
 rw [rldV_some hy,el] at l2
 have l3:=keptCell k l1 (fun q=>by have q':C (Y.K s).ls=1001 ∨ C (Y.K s).ls=1005:=q; omega)
 rw [l3] at l2
 injection l2 with l2; injection l2 with l2; injection l2 with l2; injection l2 with l2
 exact l2.symm
theorem rtick_ok (s:Nat) (h:RW w0 w C Y aw cap zs V m) (hs:s<zs.length) (hu:upN (V.nd s)=true) (hm:m<900000) :
  Calls Tryz.prog 24 #[.pointer (some ⟨Y.xb,0,none⟩),.int .i64 (s:Int)] w fun e w'=>e=.returned (.int .i64 0)∧ROut w0 w w' C Y aw cap zs (tickX zs s 6 0 V) (m+42):=by
 have H:=hid h
 have HS:=hid hs
 have HU:=hid hu
 have HUp:=hid (rup_is (s:Int) 0 h (by unfold cUp; rw [if_pos ⟨by omega,by omega⟩,Int.toNat_natCast,if_pos hu]))
 obtain ⟨T,HT⟩:∃ T,Hid (tickX zs s 6 0 V=T):=⟨_,rfl⟩
 rw [HT.out]
 obtain ⟨-,c1,-,-,-⟩:=h.cells
 have cn:=h.ns s hs
 have n7:=h.n7
 obtain ⟨z,hz⟩:∃ z,Hid (zs.length=z):=⟨_,rfl⟩
 rw [hz.out] at c1 hs n7
 have hsz:¬ ((z:Int)≤(s:Int)):=by omega
 clear h hu
 go_enter Tryz.func24,Tryz.ntmps24
 go_wp2_with fail
 refine HUp.out.mono ?_
 rintro e w1 ⟨rfl,hx⟩
 subst w1
 go_wp2_with fail
 clear c1 cn
 go_loopw [7] (fun v wr=>∃ (q:Nat) (Vq:PX),q≤6∧v=.int .i64 (q:Int)∧Hid (tickX zs s (6 - q) q Vq=T)∧Hid (upN (Vq.nd s)=true)∧ROut w0 w wr C Y aw cap zs Vq (m+7 * q)) (fun v _=>6 - (intOf v).toNat)
 case atStart=>exact ⟨0,V,Nat.zero_le _,rfl,HT.out,HU.out,H.out.out (Below.refl _ _) (by omega)⟩
 case round =>
  obtain ⟨q,Vq,hq,rfl,HTq,HUq,C1,Y1,g1,g2,g3,g4⟩:=hrel
  rename_i wr
  have HG:=hid (And.intro g1 (And.intro g2 (And.intro g3 g4)))
  clear g1 g2 g3 g4
  by_cases hlt:q<6
  ·obtain ⟨⟨h1,h2,h3⟩,HST⟩:∃ x,Hid (stN (Vq.nd s) q=x):=⟨_,rfl⟩
   obtain ⟨d0,d1,⟨cs,d2⟩,s1,s2,s3⟩:=(HG.out.1.nds s HS.out).way HUq.out hlt HST.out
   rw [rkey_nd HG.out.2.1] at d0
   have HGd:Hid (h1≤5∧h2≤1048576):=by have:=(HG.out.1.inv.nd s HS.out).gd q hlt; have h4:(dlN (Vq.nd s) q).2=⟨h1,h2,h3⟩:=HST.out; rw [h4] at this; exact ⟨this.1,this.2.1⟩
   obtain ⟨W3,HW3⟩:∃ W3,Hid (wr.alloc (.cells #[.int .i64 (h1:Int),.int .i64 (h2:Int),.int .i64 (h3:Int)] 80)=W3):=⟨_,rfl⟩
   have hW3:=HW3.out
   have HB3:Hid (Below wr.heap.size wr W3):=by rw [← HW3.out]; exact (Below.refl _ _).alloc (Nat.le_refl _) _
   have HR3:Hid (W3.heap[wr.heap.size]? = some (.cells #[.int .i64 (h1:Int),.int .i64 (h2:Int),.int .i64 (h3:Int)] 80 (0,0))):=by rw [← HW3.out]; exact heap_alloc_new wr _
   have a0:W3.cell? ⟨wr.heap.size,0,none⟩=some (.int .i64 (h1:Int)):=by rw [cell_of_row _ _ _ _ _ _ HR3.out]; rfl
   have a1:W3.cell? ⟨wr.heap.size,1,none⟩=some (.int .i64 (h2:Int)):=by rw [cell_of_row _ _ _ _ _ _ HR3.out]; rfl
   have a2:W3.cell? ⟨wr.heap.size,2,none⟩=some (.int .i64 (h3:Int)):=by rw [cell_of_row _ _ _ _ _ _ HR3.out]; rfl
   have H3:=hid (HG.out.1.later HB3.out)
   have HO3:Hid (ROut w0 w W3 C Y aw cap zs Vq (m+7 * q)):=⟨C1,Y1,H3.out,HG.out.2.1,HG.out.2.2.1.trans (Kept.of_below HB3.out),HG.out.2.2.2⟩
   have HNew:Hid (2000≤C1 wr.heap.size):=by
    rcases Nat.lt_or_ge (C1 wr.heap.size) 2000 with p|p
    ·have:=HG.out.1.lt _ p; omega
    ·exact p
   have HXB:Hid (Y1.xb=Y.xb):=rkey_xb HG.out.2.1
   have HND:Hid ((Y1.K s).nd=(Y.K s).nd):=rkey_nd HG.out.2.1 s
   by_cases hzz:h1=0∧h2=0∧h3=0
   ·have hcmp:∀ w,(binOp .eql 80 (.agg #[.int .i64 (h1:Int),.int .i64 (h2:Int),.int .i64 (h3:Int)]) (.agg #[.int .i64 0,.int .i64 0,.int .i64 0])).run Tryz.prog w=.ok (.bool true) w:=st_is0 h1 h2 h3 true (decide_eq_true hzz)
    have HT4:Hid (tickX zs s (6 - (q+1)) (q+1) Vq=T):=by
     have e:tickD zs Vq s q=Vq:=by unfold tickD; exact if_pos (by rw [HST.out,hzz.1,hzz.2.1,hzz.2.2]; rfl)
     have:=HTq.out
     rw [tickX_step s hlt,e,if_pos HUq.out] at this; exact this
    clear hzz
    go_wp2_with fail
    go_roundw
    case rel=>exact ⟨q+1,Vq,by omega,by go_num,HT4.out,HUq.out,HO3.out.mono (by omega)⟩
    case measure=>simp [intOf]; omega
   ·have hcmp:∀ w,(binOp .eql 80 (.agg #[.int .i64 (h1:Int),.int .i64 (h2:Int),.int .i64 (h3:Int)]) (.agg #[.int .i64 0,.int .i64 0,.int .i64 0])).run Tryz.prog w=.ok (.bool false) w:=st_is0 h1 h2 h3 false (decide_eq_false hzz)
    have HNZ:Hid (¬ stN (Vq.nd s) q=St.zero):=fun e=>hzz (by rw [HST.out] at e; cases e; exact ⟨rfl,rfl,rfl⟩)
    clear hzz
    obtain ⟨b,HBb⟩:∃ b,Hid (finB h1=b):=⟨_,rfl⟩
    have HFi:=hid (fun w=>rfinal_is h1 b w HBb.out)
    obtain ⟨c0,c1,-,-,-⟩:=H3.out.cells
    rw [HXB.out,hz.out] at c0 c1
    cases b with
    | true =>
     have HTd:Hid (tickD zs Vq s q=sendX Vq (toL s q 7 h2 h1 z)):=by
      unfold tickD
      rw [HST.out,hz.out]
      have:¬ (⟨h1,h2,h3⟩:St)=St.zero:=by rw [← HST.out]; exact HNZ.out
      rw [if_neg this,if_pos HBb.out]; exact rfl
     have HT4:Hid (tickX zs s (6 - (q+1)) (q+1) (sendX Vq (toL s q 7 h2 h1 z))=T):=by
      have:=HTq.out
      rw [tickX_step s hlt,HTd.out,if_pos (show upN ((sendX Vq (toL s q 7 h2 h1 z)).nd s)=true from HUq.out)] at this; exact this
     have HF7:Hid ((∀ f,f∈toL s q 7 h2 h1 z→FI zs.length f)∧(toL s q 7 h2 h1 z).length≤1000):=by
      have g:=HGd.out
      refine ⟨?_,by rw [toL_length]; omega⟩
      rw [hz.out]
      exact toL_fi hs n7.2 hlt (by decide) ⟨by omega,by omega⟩ ⟨by omega,by omega⟩ z (Nat.le_refl _)
     have HNw:=hid (fun w=>rlnew_any s z cap (q:Int) (h2:Int) aw w)
     go_wp2_with fail
     refine (HFi.out _).mono ?_
     rintro e w4 ⟨rfl,hx4⟩
     subst w4
     go_wp2_with fail
     go_region_held3 (fun V=>V.cell? ⟨Y.xb,0,none⟩=some (.slice aw z cap)∧V.cell? ⟨wr.heap.size,1,none⟩=some (.int .i64 (h2:Int))) (go_keep) (first|(go_at_call 82; (with_reducible refine (HNw.out _).mono ?_); rintro e w5 ⟨lb,rfl,hl5,hb5,hlb⟩; have q0:=cell_later hb5 c0; have q1:=cell_later hb5 a1; have HL5:=hid hl5; have HB5:=hid hb5; clear hl5 hb5 hlb))
     have p0:=cell_later HB5.out a0
     have HSd:=hid (rlsend_any lb s z cap (q:Int) 7 (h2:Int) (h1:Int) true aw _ _ _ _ _ w5 HL5.out.row (by omega))
     rw [sent_to] at HSd
     go_wp2_with fail
     refine HSd.out.mono ?_
     rintro e w6 ⟨v,rfl,hv6,hb6⟩
     have HB6:Hid (Below W3.heap.size W3 w6):=((Below.refl _ W3).drew.trans HB5.out).trans (hb6.mono HB5.out.size)
     have HSe:=hid (rsend_any v _ (H3.out.later HB6.out) (IsFr.owned hv6) HF7.out.1 HF7.out.2 (by omega))
     rw [HXB.out] at HSe
     clear hv6 hb6 q0 q1 p0
     go_wp2_with fail
     refine HSe.out.mono ?_
     rintro e w7 ⟨rfl,ho7⟩
     have HO7:=hid ho7
     clear ho7
     go_wp2_with fail
     go_roundw
     case rel=>exact ⟨q+1,_,by omega,by go_num,HT4.out,HUq.out,(ROut.step HG.out.2.1 (HG.out.2.2.1.trans (Kept.of_below (HB3.out.trans (HB6.out.mono HB3.out.size)))) HG.out.2.2.2 HO7.out).mono (by omega)⟩
     case measure=>simp [intOf]; omega
    | false =>
     have HTd:Hid (tickD zs Vq s q=tryX zs Vq s q (attemptX zs.length s (aboveN (Vq.nd s) q))):=by
      unfold tickD
      rw [HST.out]
      have:¬ (⟨h1,h2,h3⟩:St)=St.zero:=by rw [← HST.out]; exact HNZ.out
      rw [if_neg this,if_neg (by rw [HBb.out]; decide)]; exact rfl
     have HN3:=hid (H3.out.nds s HS.out)
     have hab:=aboveN_bd (HG.out.1.inv.nd s HS.out) hlt
     obtain ⟨ab,HAb⟩:∃ ab,Hid (aboveN (Vq.nd s) q=ab):=⟨_,rfl⟩
     rw [HAb.out] at hab
     obtain ⟨-,-,l2,-⟩:=HN3.out.cells
     rw [HND.out] at l2
     have l3:=HN3.out.lead hlt
     have hwr:IntKind.i64.wrap (ab+1)=ab+1:=by rw [IntKind.wrap_i64]; omega
     have hzp:(0:Int)<(z:Int):=by omega
     have hz0:¬ ((z:Int)=0):=by omega
     obtain ⟨fr,HFr⟩:∃ fr,Hid (farI z s (ab+1)=fr):=⟨_,rfl⟩
     have hfb:=farI_bd (n:=z) (s:=s) (a:=ab+1) (by omega)
     rw [HFr.out] at hfb
     have HIs:Hid (∀ j:Int,0≤j→j≤fr→((ab+1+j) % z=s ↔ j=fr)):=fun j j0 j1=>by
      have:=farI_is (n:=z) (s:=s) (a:=ab+1) (j:=j) hs j0 (by rw [HFr.out]; exact j1)
      rw [HFr.out] at this
      exact this
     have HAt:Hid (attemptX zs.length s (aboveN (Vq.nd s) q)=ab+1+fr):=by rw [hz.out,HAb.out,attemptX_far,HFr.out]; exact rfl
     obtain ⟨p,hp⟩:∃ p:Int,Hid ((h2:Int)=p):=⟨_,rfl⟩
     rw [hp.out] at a1
     simp only [hp.out] at hcmp
     have HLd:Hid ((Vq.nd s).ld q=none∧p=ab ∨ ∃ x,(Vq.nd s).ld q=some x∧((x.2.seen≤p∧p=ab) ∨ (p<x.2.seen∧x.2.seen=ab))):=by
      have e:=HAb.out
      unfold aboveN at e
      have e2:(stN (Vq.nd s) q).pr=h2:=by rw [HST.out]
      rw [e2,hp.out] at e
      cases hx:(Vq.nd s).ld q with
      | none=>rw [hx] at e; exact .inl ⟨rfl,e⟩
      | some x =>
       rw [hx] at e
       simp only at e
       refine .inr ⟨x,rfl,?_⟩
       omega
     have HSeen:Hid (∀ x,(Vq.nd s).ld q=some x→W3.cell? ⟨(Y1.K s).lb q,8,none⟩=some (.int .i64 x.2.seen)):=fun x hx=>by
      obtain ⟨L,r1,r2⟩:=HN3.out.lds q hlt x hx
      rw [r1.seen]
      exact r2.cells.2.2.2.2.2.2.2.2
     rcases HLd.out with ⟨hx,he⟩|⟨x,hx,(⟨hle,he⟩|⟨hgt,he⟩)⟩
     all_goals first
      | (rw [rldV_none hx] at l3; rw [he] at a1; simp only [he] at hcmp; clear hx he)
      | (rw [rldV_some hx] at l3; have l8:=HSeen.out x hx; obtain ⟨sn,hsn⟩:∃ sn,Hid (x.2.seen=sn):=⟨_,rfl⟩; rw [hsn.out] at l8 hle; have hng:¬ (ab<sn):=(by omega); rw [he] at a1; simp only [he] at hcmp; clear hx hle he)
      | (rw [rldV_some hx] at l3; have l8:=HSeen.out x hx; rw [he] at l8 hgt; clear hx he)
     all_goals
      go_wp2_with fail
      refine (HFi.out _).mono ?_
      rintro e w4 ⟨rfl,hx4⟩
      subst w4
      go_wp2_with fail
      go_loopw [11] (fun v wx=>∃ j:Int,0≤j∧j≤fr∧v=.int .i64 (ab+1+j)∧wx=W3) (fun v _=>(ab+1+fr - intOf v).toNat)
      case atStart=>exact ⟨0,Int.le_refl _,hfb.1,by simp,rfl⟩
      case round =>
       obtain ⟨j,j0,j1,rfl,hxw⟩:=hrel
       rw [hxw]
       clear hxw
       have HJ:=hid (HIs.out j j0 j1)
       have hwj:IntKind.i64.wrap (ab+1+j+1)=ab+1+j+1:=by rw [IntKind.wrap_i64]; omega
       have htm:(ab+1+j).tmod (z:Int)=(ab+1+j) % (z:Int):=rem_is (by omega)
       by_cases hjf:j=fr
       ·have hne:((ab+1+j) % (z:Int) != (s:Int))=false:=by rw [HJ.out.2 hjf]; simp
        obtain ⟨an,han⟩:∃ an:Nat,ab+1+j=(an:Int):=⟨(ab+1+j).toNat,by omega⟩
        have HAn:Hid (attemptX zs.length s (aboveN (Vq.nd s) q)=(an:Int)):=by rw [HAt.out,← hjf]; exact han
        rw [han] at hne htm ⊢
        have HA1:Hid (1≤an):=by show 1≤an; omega
        clear hjf hwj HJ
        by_cases hbig:1048576<an
        ·have hbi:(1048576:Int)<(an:Int):=by omega
         have HT4:Hid (tickX zs s (6 - (q+1)) (q+1) Vq=T):=by
          have e:tickD zs Vq s q=Vq:=by rw [HTd.out,HAn.out]; unfold tryX; exact if_pos hbi
          have:=HTq.out
          rw [tickX_step s hlt,e,if_pos HUq.out] at this; exact this
         clear hbig han
         go_wp2_with fail
         refine ⟨⟨q+1,Vq,by omega,by go_num,HT4.out,HUq.out,HO3.out.mono (by omega)⟩,?_⟩
         simp [intOf]; omega
        ·have hbi:¬ ((1048576:Int)<(an:Int)):=by omega
         clear han
         have hai:an≤1048576:=by omega
         have HAI:=hid hai
         have HBI:Hid ((an:Int)≤1048576):=by show (an:Int)≤1048576; omega
         have HFI:Hid (FI zs.length (electF s q an)):=electF_fi HS.out (by rw [hz.out]; exact n7.2) hlt ⟨by omega,by omega⟩
         have hl2:(Vq.nd s).l≠-2:=by have:=HUq.out; unfold upN at this; simpa using this
         have HEl:=hid (elect_ans (H3.out.inv.nd s HS.out) hl2 HFI.out (by omega))
         obtain ⟨b,HBu⟩:∃ b,Hid (upN (hearN (Vq.nd s) (electF s q an))=b):=⟨_,rfl⟩
         have HHe:Hid (Calls Tryz.prog 87 #[.pointer (some ⟨Y.xb,0,none⟩),.int .i64 (s:Int),frV (s:Int) (s:Int) (q:Int) 3 (an:Int) false 0 0 0] W3 fun e w'=>∃ v,e=.returned (.tuple #[v,.bool b])∧ROutF w0 W3 w' C1 Y1 aw cap zs (hearX Vq s (electF s q an)) (m+7 * q+1) v (ansN s (Vq.nd s) (electF s q an))):=by
          have:=rwhear_any (w:=W3) s q 3 an 0 0 0 false (electF s q an) rfl H3.out HS.out HUq.out HFI.out (by omega)
          rw [HXB.out,HBu.out] at this
          exact this
         clear hbig hl2 hai
         go_wp2_with fail
         refine HHe.out.mono ?_
         rintro e w5 ⟨v,rfl,C5,Y5,g1,g2,g3,g4,g5⟩
         have HG5:=hid (And.intro g1 (And.intro g2 (And.intro g3 g4)))
         have HF5:=hid g5
         clear g1 g2 g3 g4 g5
         have HTry:Hid (tickD zs Vq s q=tryX zs Vq s q an):=by rw [HTd.out,HAn.out]; exact rfl
         cases b with
         | false =>
          have HTe:Hid (T=hearX Vq s (electF s q an)):=by
           have e1:tryX zs Vq s q an=hearX Vq s (electF s q an):=by unfold tryX; rw [if_neg (Int.not_lt.2 HBI.out),if_pos HBu.out]
           have:=HTq.out
           rw [tickX_step s hlt,HTry.out,e1,if_neg (by rw [hearX_nd,HBu.out]; decide)] at this
           exact this.symm
          go_wp2_with fail
          go_ret
          refine ⟨rfl,?_⟩
          rw [HTe.out]
          refine ROut.step HG.out.2.1 (HG.out.2.2.1.trans (Kept.of_below HB3.out)) HG.out.2.2.2 ?_
          exact ROut.mono ⟨C5,Y5,HG5.out.1,HG5.out.2.1,HG5.out.2.2.1,HG5.out.2.2.2⟩ (by omega)
         | true =>
          obtain ⟨f0,HA0⟩:∃ f0,Hid (ansN s (Vq.nd s) (electF s q an)=[f0]):=by
           rcases HEl.out with ⟨e1,-⟩|⟨-,f0,e1⟩
           ·rw [HBu.out] at e1; cases e1
           ·exact ⟨f0,e1⟩
          rw [HA0.out] at HF5
          have HT4:Hid (tickX zs s (6 - (q+1)) (q+1) (tryX zs Vq s q an)=T∧upN ((tryX zs Vq s q an).nd s)=true):=by
           have e2:upN ((tryX zs Vq s q an).nd s)=true:=by
            unfold tryX
            rw [if_neg (Int.not_lt.2 HBI.out),if_neg (by rw [HBu.out]; decide)]
            have e3:∀ (W:PX) (M:PN) (L:List F9),(sendX (setNd W s M) L).nd s=M:=fun W M L=>by simp [sendX,setNd]
            rw [e3]
            exact HBu.out
           have:=HTq.out
           rw [tickX_step s hlt,HTry.out,if_pos e2] at this
           exact ⟨this,e2⟩
          have HTeq:=hid (try_eq s q (an:Int) f0 HA0.out (Int.not_lt.2 HBI.out) HBu.out (zs:=zs))
          have HV1:Hid ((hearX Vq s (electF s q an)).nd s=hearN (Vq.nd s) (electF s q an)):=hearX_nd _ _ _
          have HU1:Hid (upN ((hearX Vq s (electF s q an)).nd s)=true):=by rw [HV1.out]; exact HBu.out
          have HXB5:Hid (Y5.xb=Y.xb):=(rkey_xb HG5.out.2.1).trans HXB.out
          have HND5:Hid ((Y5.K s).nd=(Y.K s).nd):=(rkey_nd HG5.out.2.1 s).trans HND.out
          obtain ⟨x0,x1,-,-,-⟩:=HG5.out.1.cells
          rw [HXB5.out,hz.out] at x0 x1
          have HNw:=hid (fun w=>rlnew_any s z cap (q:Int) (an:Int) aw w)
          obtain ⟨av,cv,hv,hfl,-⟩:=HF5.out
          obtain ⟨b9,off9,hav,-⟩:=hfl 0 (by simp)
          rw [hav,show [f0].length=1 from rfl] at hv
          subst hv
          clear hfl hav
          go_wp2_with fail
          refine (HNw.out _).mono ?_
          rintro e w6 ⟨lb,rfl,hl6,hb6,hlb⟩
          have HL6:=hid (And.intro hl6 hlb)
          have HB6:=hid hb6
          have HR6:=hid (HG5.out.1.later hb6)
          obtain ⟨-,-,l2',-⟩:=(HR6.out.nds s HS.out).cells
          rw [HND5.out] at l2'
          have l3':=(HR6.out.nds s HS.out).lead hlt
          have f3:w6.frozen? ⟨(Y5.K s).ls,q,none⟩=false:=frozen_of_row _ _ _ _ _ (HR6.out.nds s HS.out).lrow
          obtain ⟨W7,HW7⟩:∃ W7,Hid (w6.setCell ⟨(Y5.K s).ls,q,none⟩ (.pointer (some ⟨lb,0,none⟩))=W7):=⟨_,rfl⟩
          have hW7:=HW7.out
          clear hl6 hb6 hlb x0 x1
          have HFf0:Hid (FI zs.length f0):=by
           have hl2:(Vq.nd s).l≠-2:=by have:=HUq.out; unfold upN at this; simpa using this
           have:=(arriveO_fi (F:=electF s q an) H3.out.inv (by show (Vq.nd ((s:Int)).toNat).l≠-2; rw [Int.toNat_natCast]; exact hl2) HFI.out (by omega)).1 f0
           refine this ?_
           have e1:¬ isAns (electF s q an).k=true:=by show ¬ decide ((3:Int)=2 ∨ (3:Int)=4 ∨ (3:Int)=6)=true; decide
           unfold arriveO
           rw [if_neg e1]
           show f0∈ansN ((s:Int)).toNat (Vq.nd ((s:Int)).toNat) (electF s q an)
           rw [Int.toNat_natCast,HA0.out]
           exact List.mem_singleton.2 rfl
          have HN7:Hid (∃ C7 Y7,RW w0 W7 C7 Y7 aw cap zs (setNd (hearX Vq s (electF s q an)) s (setLd ((hearX Vq s (electF s q an)).nd s) q ((an:Int),P0))) (m+7 * q+1)∧rkey Y7=rkey Y5∧(Y7.K s).lb q=lb∧Kept (OwnX C5) w5 W7∧(∀ x,x<w5.heap.size→C7 x=C5 x)):=by
           have:=HG5.out.1.leadNew (m':=m+7 * q+1) (a:=(an:Int)) HS.out hlt HU1.out HB6.out (by rw [hz.out]; exact HL6.out.1) HL6.out.2 ⟨by omega,HBI.out⟩ (Nat.le_refl _)
           rw [HW7.out] at this
           obtain ⟨C7,y1,y2,y3,-⟩:=this
           exact ⟨C7,_,y1,rkey_K rfl,by simp [updK],y2,y3⟩
          obtain ⟨C7,Y7,hRW7,hRK7,hLB7,hK7,hC7⟩:=HN7.out
          have HRW7:=hid hRW7
          have HR7:=hid (And.intro hRK7 (And.intro hLB7 (And.intro hK7 hC7)))
          have HRL7:Hid (∃ L:LSt,RLd W7 lb s z cap (q:Int) (an:Int) aw (stB L.stt) L.wait ((Y7.K s).vh q) L.hs L.ph L.seen):=by
           obtain ⟨L,-,r2⟩:=(hRW7.nds s HS.out).lds q hlt ((an:Int),P0) (by simp [setNd,setLd])
           rw [hLB7,hz.out] at r2
           exact ⟨L,r2⟩
          obtain ⟨L7,hRL7⟩:=HRL7.out
          have HSt:=hid (rlstart_any hRL7 (by omega))
          rw [start_elects hs (by have:=HA1.out; omega)] at HSt
          have HEF:=hid (electL_fi (n:=zs.length) (s:=s) (d:=q) (a:=(an:Int)) HS.out (by rw [hz.out]; exact n7.2) hlt ⟨by omega,HBI.out⟩)
          rw [hz.out] at HEF
          clear hRW7 hRK7 hLB7 hK7 hC7 hRL7
          go_wp2_with fail
          refine HSt.out.mono ?_
          rintro e w8 ⟨vs,rfl,hv8,hb8⟩
          have HSe:=hid (rsend_kept vs _ (HRW7.out.later hb8) hv8 (by rw [hz.out]; exact HEF.out.1) HEF.out.2 (by omega))
          rw [rkey_xb HR7.out.1,HXB5.out] at HSe
          have HB8:=hid hb8
          clear hv8 hb8 l2' l3' f3
          go_wp2_with fail
          refine HSe.out.mono ?_
          rintro e w9 ⟨rfl,⟨C9,Y9,y1,y2,y3,y4⟩,hk9⟩
          have HG9:=hid (And.intro y1 (And.intro y2 (And.intro y3 y4)))
          have HLB9:Hid ((Y9.K s).lb q=lb):=(same_lead (HRW7.out.later HB8.out) y1 y2 hk9 HS.out hlt (x:=((an:Int),P0)) (y:=((an:Int),P0)) (by simp [setNd,setLd]) (by simp [sendX,setNd,setLd])).trans HR7.out.2.1
          have HF9:Hid (FrF w9 C9 W3.heap.size (.slice (some ⟨b9,off9,none⟩) 1 cv) [f0]):=((HF5.out.kept HR7.out.2.2.1 HR7.out.2.2.2).kept (Kept.of_below HB8.out) (fun _ _=>rfl)).kept y3 y4
          have HC9:Hid (w9.cell? ⟨b9,off9,none⟩=some (.int .i64 f0.f)∧w9.cell? ⟨b9,off9+1,none⟩=some (.int .i64 f0.t)∧w9.cell? ⟨b9,off9+2,none⟩=some (.int .i64 f0.d)∧w9.cell? ⟨b9,off9+3,none⟩=some (.int .i64 f0.k)∧w9.cell? ⟨b9,off9+4,none⟩=some (.int .i64 f0.a)∧w9.cell? ⟨b9,off9+5,none⟩=some (.bool f0.y)∧w9.cell? ⟨b9,off9+6,none⟩=some (.int .i64 f0.ph)∧w9.cell? ⟨b9,off9+7,none⟩=some (.int .i64 f0.pr)∧w9.cell? ⟨b9,off9+8,none⟩=some (.int .i64 f0.pa)):=by
           obtain ⟨ad',cp',e',fl9,-⟩:=HF9.out
           obtain ⟨b',o',e2,hc⟩:=fl9 0 (by simp)
           injection e' with e3
           rw [← e3] at e2
           injection e2 with e2
           injection e2 with e4 e5
           subst e4 e5
           exact nineO (x:=f0) (fun j hj=>by have:=hc j hj; rw [show off9+0 * 9+j=off9+j by omega] at this; exact this)
          clear y1 y2 y3 y4 hk9
          have HHr:Hid (Calls Tryz.prog 88 #[.pointer (some ⟨lb,0,none⟩),.agg #[.int .i64 f0.f,.int .i64 f0.t,.int .i64 f0.d,.int .i64 f0.k,.int .i64 f0.a,.bool f0.y,.int .i64 f0.ph,.int .i64 f0.pr,.int .i64 f0.pa]] w9 fun e w10=>∃ v10,e=.returned v10∧Calls Tryz.prog 83 #[.pointer (some ⟨Y.xb,0,none⟩),v10] w10 fun e w11=>e=.returned (.tuple #[])∧ROut w0 w w11 C Y aw cap zs (tryX zs Vq s q an) (m+7 * q+7)):=by
           obtain ⟨L9,hRel9,hRL9⟩:=(HG9.out.1.nds s HS.out).lds q hlt ((an:Int),P0) (by simp [sendX,setNd,setLd])
           obtain ⟨hce1,hce2⟩:=(HG9.out.1.nds s HS.out).ce q hlt ((an:Int),P0) (by simp [sendX,setNd,setLd])
           obtain ⟨vb,vo,haw,hvb,hvc⟩:=HG9.out.1.weights
           have hlo:=HG9.out.1.low
           have hpr:0≤f0.pr∧f0.pr≤1048576:=by have:=HFf0.out.ok.2.2.2.2.2.2.1; omega
           have n77:zs.length≤7:=by rw [hz.out]; exact n7.2
           have hh:=rlhear_all (w:=w9) (zs:=zs) (lb:=(Y9.K s).lb q) (id:=s) (cap:=cap) (vb:=vb) (vo:=vo) (deal:=q) (att:=(an:Int)) (vh:=(Y9.K s).vh q) (P:=P0) (L:=L9) f0 (by rw [← haw]; exact hRL9) hRel9 (by omega) (fun _=>hpr.1) HG9.out.1.inv.he hvc (fun e=>by have h5:=hlo ((Y9.K s).lb q) (by omega); omega) (fun e=>by have h6:=hce2 _ e; have h5:=hlo vb (by omega); omega)
           rw [HLB9.out] at hh
           refine hh.mono ?_
           rintro e w10 ⟨v10,vh',L',rfl,hv10,hr10,hl10,hk10,hg10⟩
           refine ⟨v10,rfl,?_⟩
           obtain ⟨e1,e2⟩:=leadX_at (zs:=zs) (i:=s) (d:=q) (F:=f0) (V:=sendX (setNd (hearX Vq s (electF s q an)) s (setLd ((hearX Vq s (electF s q an)).nd s) q ((an:Int),P0))) (electsL s q an z)) (x:=((an:Int),P0)) (by simp [sendX,setNd,setLd])
           have hNI:=((HG9.out.1.inv.nd s HS.out).hears (i:=s) (d:=q) (x:=((an:Int),P0)) (F:=f0) (by simp [sendX,setNd,setLd]) hRel9 n77 HFf0.out)
           have hlead:=HG9.out.1.leadOut (i:=s) (d:=q) (x:=((an:Int),P0)) HS.out hlt (by simp [sendX,setNd,setLd]) (by rw [HLB9.out]; exact hk10) hr10 (by rw [HLB9.out,haw]; exact hl10) hg10 (Nat.le_refl _) hNI
           obtain ⟨C10,Y10,u1,u2,u3,u4⟩:=hlead
           have hsend:=rsend_any v10 _ u1 hv10 (outL_fi (zs:=zs) (id:=s) (d:=q) (att:=(an:Int)) (P:=P0) (f:=f0) HS.out n77 hlt ⟨by omega,HBI.out⟩) (Nat.le_trans (outL_le _ _ _ _ _) (by omega)) (by omega)
           rw [rkey_xb u2,rkey_xb HG9.out.2.1,rkey_xb HR7.out.1,HXB5.out] at hsend
           refine hsend.mono ?_
           rintro e w11 ⟨rfl,ho⟩
           refine ⟨rfl,?_⟩
           have hte:=HTeq.out
           rw [hz.out,e1,e2] at hte
           rw [← hte]
           refine ROut.step HG.out.2.1 (HG.out.2.2.1.trans (Kept.of_below HB3.out)) HG.out.2.2.2 ?_
           refine ROut.step HG5.out.2.1 HG5.out.2.2.1 HG5.out.2.2.2 ?_
           refine ROut.step HR7.out.1 (HR7.out.2.2.1.trans (Kept.of_below HB8.out)) HR7.out.2.2.2 ?_
           refine ROut.step HG9.out.2.1 HG9.out.2.2.1 HG9.out.2.2.2 ?_
           exact (ROut.step u2 u3 u4 ho).mono (by omega)
          obtain ⟨t0,t1,t2,t3,t4,t5,t6,t7,t8⟩:=HC9.out
          go_wp2_with fail
          go_loopw [15] (fun v15 wx=>(v15=.int .i64 0∧wx=w9) ∨ (v15=.int .i64 1∧ROut w0 w wx C Y aw cap zs (tryX zs Vq s q an) (m+7 * q+7))) (fun v15 _=>2 - (intOf v15).toNat)
          case atStart=>exact .inl ⟨rfl,rfl⟩
          case round =>
           rcases hrel with ⟨rfl,hxw⟩|⟨rfl,hro⟩
           ·rw [hxw]
            clear hxw
            go_wp2_with fail
            refine HHr.out.mono ?_
            rintro e w10 ⟨v10,rfl,hse⟩
            go_wp2_with fail
            refine hse.mono ?_
            rintro e w11 ⟨rfl,ho⟩
            have HO:=hid ho
            clear hse ho
            go_wp2_with fail
            go_roundw
            case rel=>exact .inr ⟨by go_num,HO.out⟩
            case measure=>simp [intOf]
           ·have HO:=hid hro
            clear hro
            go_wp2_with fail
            refine ⟨⟨q+1,tryX zs Vq s q an,by omega,by go_num,HT4.out.1,HT4.out.2,HO.out.mono (by omega)⟩,?_⟩
            simp [intOf]; omega
       ·have hne:((ab+1+j) % (z:Int) != (s:Int))=true:=by
         have:¬ ((ab+1+j) % (z:Int)=(s:Int)):=fun e=>hjf (HJ.out.1 e)
         simpa using this
        have HJ2:=hid hjf
        clear hjf
        go_wp2_with fail
        go_roundw
        case rel=>exact ⟨j+1,by omega,by have:=HJ2.out; omega,by rw [show ab+1+(j+1)=ab+1+j+1 by omega],trivial⟩
        case measure=>simp [intOf]; have:=HJ2.out; omega
  ·obtain rfl:q=6:=by omega
   have HT6:Hid (Vq=T):=HTq.out
   clear HTq
   go_wp2_with fail
   go_ret
   refine ⟨rfl,?_⟩
   rw [← HT6.out]
   exact ⟨C1,Y1,HG.out.1,HG.out.2.1,HG.out.2.2.1,HG.out.2.2.2⟩
end
structure Dis9 (nd t mm gn gs gb r ls dn:Nat):Prop where
 d01:t≠nd
 d02:mm≠nd
 d12:mm≠t
 d03:gn≠nd
 d13:gn≠t
 d23:gn≠mm
 d04:gs≠nd
 d14:gs≠t
 d24:gs≠mm
 d34:gs≠gn
 d05:gb≠nd
 d15:gb≠t
 d25:gb≠mm
 d35:gb≠gn
 d45:gb≠gs
 d06:r≠nd
 d16:r≠t
 d26:r≠mm
 d36:r≠gn
 d46:r≠gs
 d56:r≠gb
 d07:ls≠nd
 d17:ls≠t
 d27:ls≠mm
 d37:ls≠gn
 d47:ls≠gs
 d57:ls≠gb
 d67:ls≠r
 d08:dn≠nd
 d18:dn≠t
 d28:dn≠mm
 d38:dn≠gn
 d48:dn≠gs
 d58:dn≠gb
 d68:dn≠r
 d78:dn≠ls
def col9 (C:Nat→Nat) (k nd t mm gn gs gb r ls dn:Nat):Nat→Nat:=fun x=>if x=nd then 100 * k+1 else if x=t then 100 * k+2 else if x=mm then 100 * k+3 else if x=gn then 100 * k+4 else if x=gs then 100 * k+5 else if x=gb then 100 * k+6 else if x=r then 100 * k+7 else if x=ls then 100 * k+8 else if x=dn then 100 * k+9 else C x
section
variable {C:Nat→Nat} {k nd t mm gn gs gb r ls dn:Nat}
theorem col9_0 (_h:Dis9 nd t mm gn gs gb r ls dn):col9 C k nd t mm gn gs gb r ls dn nd=100 * k+1:=by
 unfold col9
 rw [if_pos rfl]
theorem col9_1 (h:Dis9 nd t mm gn gs gb r ls dn):col9 C k nd t mm gn gs gb r ls dn t=100 * k+2:=by
 unfold col9
 rw [if_neg h.d01,if_pos rfl]
theorem col9_2 (h:Dis9 nd t mm gn gs gb r ls dn):col9 C k nd t mm gn gs gb r ls dn mm=100 * k+3:=by
 unfold col9
 rw [if_neg h.d02,if_neg h.d12,if_pos rfl]
theorem col9_3 (h:Dis9 nd t mm gn gs gb r ls dn):col9 C k nd t mm gn gs gb r ls dn gn=100 * k+4:=by
 unfold col9
 rw [if_neg h.d03,if_neg h.d13,if_neg h.d23,if_pos rfl]
theorem col9_4 (h:Dis9 nd t mm gn gs gb r ls dn):col9 C k nd t mm gn gs gb r ls dn gs=100 * k+5:=by
 unfold col9
 rw [if_neg h.d04,if_neg h.d14,if_neg h.d24,if_neg h.d34,if_pos rfl]
theorem col9_5 (h:Dis9 nd t mm gn gs gb r ls dn):col9 C k nd t mm gn gs gb r ls dn gb=100 * k+6:=by
 unfold col9
 rw [if_neg h.d05,if_neg h.d15,if_neg h.d25,if_neg h.d35,if_neg h.d45,if_pos rfl]
theorem col9_6 (h:Dis9 nd t mm gn gs gb r ls dn):col9 C k nd t mm gn gs gb r ls dn r=100 * k+7:=by
 unfold col9
 rw [if_neg h.d06,if_neg h.d16,if_neg h.d26,if_neg h.d36,if_neg h.d46,if_neg h.d56,if_pos rfl]
theorem col9_7 (h:Dis9 nd t mm gn gs gb r ls dn):col9 C k nd t mm gn gs gb r ls dn ls=100 * k+8:=by
 unfold col9
 rw [if_neg h.d07,if_neg h.d17,if_neg h.d27,if_neg h.d37,if_neg h.d47,if_neg h.d57,if_neg h.d67,if_pos rfl]
theorem col9_8 (h:Dis9 nd t mm gn gs gb r ls dn):col9 C k nd t mm gn gs gb r ls dn dn=100 * k+9:=by
 unfold col9
 rw [if_neg h.d08,if_neg h.d18,if_neg h.d28,if_neg h.d38,if_neg h.d48,if_neg h.d58,if_neg h.d68,if_neg h.d78,if_pos rfl]
theorem col9_old {x b:Nat} (h:b≤nd∧b≤t∧b≤mm∧b≤gn∧b≤gs∧b≤gb∧b≤r∧b≤ls∧b≤dn) (hx:x<b):col9 C k nd t mm gn gs gb r ls dn x=C x:=by
 unfold col9
 rw [if_neg (by omega),if_neg (by omega),if_neg (by omega),if_neg (by omega),if_neg (by omega),if_neg (by omega),if_neg (by omega),if_neg (by omega),if_neg (by omega)]
theorem col9_in {x:Nat} (h:col9 C k nd t mm gn gs gb r ls dn x<2000):C x<2000 ∨ x=nd ∨ x=t ∨ x=mm ∨ x=gn ∨ x=gs ∨ x=gb ∨ x=r ∨ x=ls ∨ x=dn:=by
 unfold col9 at h
 by_cases e0:x=nd
 ·omega
 ·rw [if_neg e0] at h
  by_cases e1:x=t
  ·omega
  ·rw [if_neg e1] at h
   by_cases e2:x=mm
   ·omega
   ·rw [if_neg e2] at h
    by_cases e3:x=gn
    ·omega
    ·rw [if_neg e3] at h
     by_cases e4:x=gs
     ·omega
     ·rw [if_neg e4] at h
      by_cases e5:x=gb
      ·omega
      ·rw [if_neg e5] at h
       by_cases e6:x=r
       ·omega
       ·rw [if_neg e6] at h
        by_cases e7:x=ls
        ·omega
        ·rw [if_neg e7] at h
         by_cases e8:x=dn
         ·omega
         ·rw [if_neg e8] at h
          exact .inl h
end
def rptrs (K:Nat→RB) (k:Nat):List Value:=(List.range k).map fun i=>.pointer (some ⟨(K i).nd,0,none⟩)
theorem rptrs_succ (K:Nat→RB) (k:Nat):rptrs K (k+1)=rptrs K k ++ [.pointer (some ⟨(K k).nd,0,none⟩)]:=by simp [rptrs,List.range_succ]
theorem rptrs_same {K L:Nat→RB} {k:Nat} (h:∀ i,i<k→(K i).nd=(L i).nd):rptrs K k=rptrs L k:=by
 unfold rptrs
 refine List.map_congr_left fun i hi=>?_
 rw [h i (List.mem_range.1 hi)]
theorem Tryz.infoPRN:(Tryz.prog.info? 63).map (fun i=>(i.zero,i.size,i.bytes))=some (some (.pointer none),1,8):=by kernel_rfl
structure RWN (w0 w:World) (C:Nat→Nat) (xb:Nat) (nv:Value) (K:Nat→RB) (aw:Option Addr) (cap:Nat) (zs:List Int) (k:Nat):Prop where
 bel:Below w0.heap.size w0 w
 row:w.heap[xb]? = some (.cells #[.slice aw zs.length cap,nv,.slice none 0 0,.slice none 0 0,.slice none 0 0] 58 (0,0))
 ns:w.ownsRow w0.heap.size 63 1 nv k (rptrs K k)
 nds:∀ i,i<k→RN w C (K i) i zs.length cap aw (newN 512)
 cx:C xb=1001
 cn:∀ g,nv.ownBlock=some g→C g=1003
 lt:∀ x,C x<2000→x<w.heap.size
 low:∀ x,C x<2000→w0.heap.size≤x
structure RNew (w:World) (k nd t mm gn gs gb r ls dn:Nat):Prop where
 row:w.heap[nd]? = some (.cells #[.pointer (some ⟨t,0,none⟩),.pointer (some ⟨r,0,none⟩),.slice (some ⟨ls,0,none⟩) 6 6,.slice (some ⟨dn,0,none⟩) 6 6] 69 (0,0))
 rp:RP w r (zeroB 512) false 0 false
 rj:RJ w mm gn gs r (dealL (zeroB 512).data.toList) false
 rs:RSt w t mm gb (k:Int) (fun _=>false)
 lr:w.heap[ls]? = some (.cells #[.pointer none,.pointer none,.pointer none,.pointer none,.pointer none,.pointer none] 111 (0,0))
 dr:VR w dn (fun _=>false)
def newRK (nd t mm gn gs gb r ls dn:Nat):RB:=⟨nd,t,mm,gn,gs,gb,r,ls,dn,fun _=>0,fun _=>.slice none 0 0⟩
def addRK (K:Nat→RB) (k:Nat) (x:RB):Nat→RB:=fun e=>if e=k then x else K e
section
variable {w0 w W4 w5:World} {C C':Nat→Nat} {xb k cap:Nat} {aw:Option Addr} {nv nv':Value} {K:Nat→RB} {zs:List Int} {nd t mm gn gs gb r ls dn:Nat}
theorem newN_fin (d:Nat) (hd:d<6):finB (stN (newN 512) d).ph=false:=by
 show finB (dealL (zeroB 512).data.toList d).2.ph=false
 rw [deal_zero 512 d (by omega)]
 rfl
theorem RNew.rn (h:RNew w k nd t mm gn gs gb r ls dn) (c:Dis9 nd t mm gn gs gb r ls dn) (n:Nat):RN w (col9 C k nd t mm gn gs gb r ls dn) (newRK nd t mm gn gs gb r ls dn) k n cap aw (newN 512):=by
 have hz:(zeroB 512).size=512:=zeroB_size 512
 have h7:∀ x,x=r→True:=fun _ _=>trivial
 refine ⟨h.row,⟨false,0,false,h.rp,.inr (.inl ⟨rfl,rfl,rfl⟩)⟩,fun _=>⟨⟨h.rj,⟨false,0,false,h.rp,.inr (.inl ⟨rfl,rfl,rfl⟩)⟩,c.d26,c.d36,c.d46,by show (zeroB 512).size≤1000; omega,by show 216≤(zeroB 512).size; omega⟩,h.rs⟩,h.lr,?_,fun d hd x hx=>(by cases hx),col9_0 c,col9_6 c,col9_7 c,col9_8 c,fun _=>⟨col9_1 c,col9_2 c,col9_3 c,col9_4 c,col9_5 c⟩,fun d hd x hx=>(by cases hx)⟩
 have:=h.dr
 unfold VR at this ⊢
 show w.heap[dn]? = _
 rw [this]
 simp only [newN_fin 0 (by omega),newN_fin 1 (by omega),newN_fin 2 (by omega),newN_fin 3 (by omega),newN_fin 4 (by omega),newN_fin 5 (by omega)]
theorem RWN.add (h:RWN w0 w C xb nv K aw cap zs k) (hk:k<7) (hb:Below w.heap.size w W4) (hn:RNew W4 k nd t mm gn gs gb r ls dn) (c:Dis9 nd t mm gn gs gb r ls dn) (hlo:w.heap.size≤nd∧w.heap.size≤t∧w.heap.size≤mm∧w.heap.size≤gn∧w.heap.size≤gs∧w.heap.size≤gb∧w.heap.size≤r∧w.heap.size≤ls∧w.heap.size≤dn) (hhi:nd<W4.heap.size∧t<W4.heap.size∧mm<W4.heap.size∧gn<W4.heap.size∧gs<W4.heap.size∧gb<W4.heap.size∧r<W4.heap.size∧ls<W4.heap.size∧dn<W4.heap.size)
  (hown:w5.ownsRow w0.heap.size 63 1 nv' (k+1) (rptrs K k ++ [.pointer (some ⟨nd,0,none⟩)])) (hg:W4.grownBy w5 nv.ownBlock) (ho:nv'.ownBlock=nv.ownBlock ∨ nv'.ownBlock=some W4.heap.size) :
  ∃ C' K',RWN w0 (w5.setCell ⟨xb,1,none⟩ nv') C' xb nv' K' aw cap zs (k+1):=by
 have hw0:=h.bel.size
 have hbs:=hb.size
 have hold:∀ x,x<w.heap.size→col9 C k nd t mm gn gs gb r ls dn x=C x:=fun x hx=>col9_old hlo hx
 have hcase:∀ x,col9 C k nd t mm gn gs gb r ls dn x<2000→(x<w.heap.size∧C x<2000) ∨ (w.heap.size≤x∧x<W4.heap.size):=fun x hx=>by
  rcases col9_in hx with q|q|q|q|q|q|q|q|q|q
  ·exact .inl ⟨h.lt x q,q⟩
  all_goals (right; omega)
 have hlt1:∀ x,col9 C k nd t mm gn gs gb r ls dn x<2000→x<W4.heap.size:=fun x hx=>by rcases hcase x hx with q|q <;> omega
 have hlow1:∀ x,col9 C k nd t mm gn gs gb r ls dn x<2000→w0.heap.size≤x:=fun x hx=>by
  rcases hcase x hx with q|q
  ·exact h.low x q.2
  ·omega
 have hkk:=grown_kept hg
 have cx0:=h.cx
 have cx1:col9 C k nd t mm gn gs gb r ls dn xb=1001:=(hold xb (h.lt xb (by omega))).trans cx0
 have cn1:∀ g,nv.ownBlock=some g→col9 C k nd t mm gn gs gb r ls dn g=1003:=fun g hgg=>by
  have:=h.cn g hgg
  exact (hold g (h.lt g (by omega))).trans this
 obtain ⟨C2,hC2,hlt2,hlow2,hcn2⟩:∃ C2:Nat→Nat,(∀ x,x<W4.heap.size→C2 x=col9 C k nd t mm gn gs gb r ls dn x)∧(∀ x,C2 x<2000→x<w5.heap.size)∧(∀ x,C2 x<2000→w0.heap.size≤x)∧∀ g,nv'.ownBlock=some g→C2 g=1003:=by
  rcases ho with o|o
  ·exact ⟨col9 C k nd t mm gn gs gb r ls dn,fun _ _=>rfl,fun x hx=>Nat.lt_of_lt_of_le (hlt1 x hx) hg.size,hlow1,fun g hgg=>cn1 g (by rw [← o]; exact hgg)⟩
  ·have hsz:W4.heap.size<w5.heap.size:=own_lt hown o
   refine ⟨paint (col9 C k nd t mm gn gs gb r ls dn) W4.heap.size 1003,fun x hx=>paint_ne (by omega),fun x hx=>?_,fun x hx=>?_,fun g hgg=>?_⟩
   ·by_cases e:x=W4.heap.size
    ·rw [e]; exact hsz
    ·rw [paint_ne e] at hx; exact Nat.lt_of_lt_of_le (hlt1 x hx) hg.size
   ·by_cases e:x=W4.heap.size
    ·rw [e]; omega
    ·rw [paint_ne e] at hx; exact hlow1 x hx
   ·rw [o] at hgg
    obtain rfl:=Option.some.inj hgg
    exact paint_at _ _ _
 have hK:Kept (fun x=>nv.ownBlock=some x ∨ x=xb) W4 (w5.setCell ⟨xb,1,none⟩ nv'):=(hkk.mono (fun x hx=>.inl hx)).setCell (.inr rfl) _
 have hS:∀ x,(nv.ownBlock=some x ∨ x=xb)→col9 C k nd t mm gn gs gb r ls dn x=1003 ∨ col9 C k nd t mm gn gs gb r ls dn x=1001:=fun x hx=>by
  rcases hx with hx|rfl
  ·exact .inl (cn1 x hx)
  ·exact .inr cx1
 have hlow:∀ x,(nv.ownBlock=some x ∨ x=xb)→w0.heap.size≤x:=fun x hx=>hlow1 x (by rcases hS x hx with g|g <;> omega)
 have hRN:∀ (x:RB) (e:Nat),e≤9→RN W4 (col9 C k nd t mm gn gs gb r ls dn) x e zs.length cap aw (newN 512)→RN (w5.setCell ⟨xb,1,none⟩ nv') C2 x e zs.length cap aw (newN 512):=fun x e he hx=>by
  have:=hx.col (C':=C2) hC2
  refine this.kept (S:=fun y=>(nv.ownBlock=some y ∨ y=xb)∧y<W4.heap.size) ⟨hK.os,hK.tape,hK.output,hK.size,fun y hy hn=>hK.block y hy (fun q=>hn ⟨q,hy⟩)⟩ (fun y hy hq=>?_)
  rcases hS y hq.1 with g|g <;> (rw [hC2 y hq.2] at hy; omega)
 refine ⟨C2,addRK K k (newRK nd t mm gn gs gb r ls dn),⟨hK.below (Nat.le_trans hw0 hbs) hlow (h.bel.trans (hb.mono hw0)),?_,?_,fun e he=>?_,?_,hcn2,fun x hx=>?_,hlow2⟩⟩
 ·have hr4:W4.heap[xb]? = _:=(hb.block _ (row_ltJ h.row)).trans h.row
  have hr5:=hkk.row hr4 (fun e=>by have:=cn1 _ e; omega)
  rw [heap_setCell_same w5 xb 1 _ _ _ hr5]; rfl
 ·have e1:rptrs (addRK K k (newRK nd t mm gn gs gb r ls dn)) (k+1)=rptrs K k ++ [.pointer (some ⟨nd,0,none⟩)]:=by
   rw [rptrs_succ,rptrs_same (L:=K) (fun i hi=>by unfold addRK; rw [if_neg (by omega)])]
   unfold addRK newRK
   rw [if_pos rfl]
  rw [e1]
  refine own_kept hown ((Kept.refl (In1 xb) w5).set1 1 nv') (fun y hy e=>?_)
  have h3:=hcn2 y hy
  rw [show y=xb from e,hC2 _ (hlt1 xb (by omega))] at h3
  omega
 ·by_cases g:e=k
  ·subst g
   have:=hRN _ e (by omega) (hn.rn (C:=C) (aw:=aw) (cap:=cap) c zs.length)
   unfold addRK
   rw [if_pos rfl]
   exact this
  ·have:=hRN _ e (by omega) (((h.nds e (by omega)).col (C':=col9 C k nd t mm gn gs gb r ls dn) hold).later hb)
   unfold addRK
   rw [if_neg g]
   exact this
 ·exact (hC2 _ (hlt1 xb (by omega))).trans cx1
 ·have:=hlt2 x hx
  simpa using this
theorem RWN.done (h:RWN w0 w C xb nv K aw cap zs zs.length) (he:errW zs=0) (hs:IsSl w0 (.slice aw zs.length cap) zs):∃ Y,Y.xb=xb∧RW w0 w C Y aw cap zs newX 0:=by
 have n1:=(errW_zero he).1
 rcases h.ns.2 with ⟨-,h0⟩|⟨g,cp,cur,e,h2,h3,h4,h5,h6,h7⟩
 ·omega
 ·subst e
  refine ⟨⟨xb,g,cp,.slice none 0 0,.slice none 0 0,.slice none 0 0,K⟩,rfl,⟨h.bel,h.row,hs,fun i hi=>?_,h.nds,⟨[],World.ownsRow_nil _ _ _ _,⟨fun a b _ _ _=>?_,fun x hx=>(by cases hx)⟩,Nat.zero_le _⟩,World.ownsRow_nil _ _ _ _,World.ownsRow_nil _ _ _ _,h.cx,h.cn g rfl,fun y hy=>(by cases hy),fun y hy=>(by cases hy),fun y hy=>(by cases hy),h.lt,h.low,⟨he,fun i _=>newN_ni _,fun f hf=>(by cases hf),Nat.zero_le _,Nat.zero_le _⟩⟩⟩
  ·have:=h.ns.cellAt i (by omega)
   rw [this]
   unfold rptrs
   rw [List.getElem?_map,List.getElem?_range hi]
   rfl
  ·constructor
   ·intro q
    have:brX newX a b=false:=rfl
    rw [this] at q; cases q
   ·rintro (q|q) <;> cases q
end
theorem conv_z {w:World} {q n:Nat} (h:w.heap[q]? = some (.cells (cellsB (zeroB n)) 5 (0,0))):(convert 60 9 (.slice (some ⟨q,0,none⟩) n n)).run Tryz.prog w=.ok (.string (zeroB n)) w:=by
 have:=run_convert_bytes_back (P:=Tryz.prog) w 60 9 5 ⟨q,0,none⟩ n (zeroB n).data.toList Tryz.underlying60 Tryz.underlying5 Tryz.underlying9 (fun j hj=>by
  rw [Addr.add_lit,cell_of_row _ q (0+j) _ _ _ h,Nat.zero_add,cellsB_at hj,getB hj])
 rw [← size_list,zeroB_size] at this
 rw [this]
theorem row_alloc {X:World} {b:Nat} {o o':Obj} (h:X.heap[b]? = some o):(X.alloc o').heap[b]? = some o:=(Below.heap_alloc _ _ _ (row_ltJ h)).trans h
theorem row_below {X Y:World} {b:Nat} {o:Obj} (hb:Below X.heap.size X Y) (h:X.heap[b]? = some o):Y.heap[b]? = some o:=(hb.block b (row_ltJ h)).trans h
theorem RJ.at {w w':World} {m gn gs r:Nat} {E:Nat→Nat×St} {d:Bool} (h:RJ w m gn gs r E d) (hb:Below w.heap.size w w'):RJ w' m gn gs r E d:=h.kept (S:=fun _=>False) (Kept.of_below hb) (fun x=>x) (fun x=>x) (fun x=>x)
theorem RWN.fin {w wr W W3:World} {C:Nat→Nat} {aw:Option Addr} {cap k:Nat} {nv:Value} {K:Nat→RB} {zs:List Int} (HN:Hid (RWN w wr C w.heap.size nv K aw cap zs k)) (hk:k<7) (HB:Hid (Below wr.heap.size wr W)) (HRP:Hid (RP W W3.heap.size (zeroB 512) false 0 false)) (HS3:Hid (W3.heap.size=wr.heap.size+1∧W.heap.size=wr.heap.size+2)) :
  ∀ (X4 w1 w5:World) (t mm gn gs gb ls dn nd g5 c5:Nat),Below W.heap.size W w1→Below w1.heap.size w1 X4→RJ w1 mm gn gs W3.heap.size (dealL (zeroB 512).data.toList) false→RSt w1 t mm gb (k:Int) (fun _=>false)→(W.heap.size≤t∧W.heap.size≤mm∧W.heap.size≤gn∧W.heap.size≤gs∧W.heap.size≤gb)→(t≠mm∧t≠gn∧t≠gs∧t≠gb)→(gb≠mm∧gb≠gn∧gb≠gs)→(ls≠t∧ls≠mm∧ls≠gn∧ls≠gs∧ls≠gb)→(dn≠t∧dn≠mm∧dn≠gn∧dn≠gs∧dn≠gb)→(W.heap.size≤ls∧W.heap.size≤dn∧ls≠dn∧ls<nd∧dn<nd∧w1.heap.size≤nd) →
  X4.heap[nd]? = some (.cells #[.pointer (some ⟨t,0,none⟩),.pointer (some ⟨W3.heap.size,0,none⟩),.slice (some ⟨ls,0,none⟩) 6 6,.slice (some ⟨dn,0,none⟩) 6 6] 69 (0,0))→X4.heap[ls]? = some (.cells #[.pointer none,.pointer none,.pointer none,.pointer none,.pointer none,.pointer none] 111 (0,0))→X4.heap[dn]? = some (.cells #[.bool false,.bool false,.bool false,.bool false,.bool false,.bool false] 4 (0,0)) →
  w5.ownsRow w.heap.size 63 1 (.slice (some ⟨g5,0,none⟩) (k+1) c5) (k+1) (rptrs K k ++ [.pointer (some ⟨nd,0,none⟩)])→X4.grownBy w5 nv.ownBlock→(nv.ownBlock=some g5 ∨ g5=X4.heap.size) →
  ∃ C' K',RWN w (w5.setCell ⟨w.heap.size,1,none⟩ (.slice (some ⟨g5,0,none⟩) (k+1) c5)) C' w.heap.size (.slice (some ⟨g5,0,none⟩) (k+1) c5) K' aw cap zs (k+1):=by
 intro X4 w1 w5 t mm gn gs gb ls dn nd g5 c5 hbW hb4 hrj hrs lo ht hg hl hd hx r1 r2 r3 hown hgr hat
 obtain ⟨s1,s2⟩:=HS3.out
 obtain ⟨j1,j2,j3⟩:=hrj.lts
 have j4:=row_ltJ hrs.row
 have j5:=row_ltJ hrs.refs
 have z1:=hbW.size
 have z2:=hb4.size
 have y1:=row_ltJ r1; have y2:=row_ltJ r2; have y3:=row_ltJ r3
 have m1:=hrj.mn; have m2:=hrj.ms; have m3:=hrj.ns
 have hRN:RNew X4 k nd t mm gn gs gb W3.heap.size ls dn:=⟨r1,HRP.out.kept (S:=fun _=>False) (Kept.of_below (hbW.trans (hb4.mono hbW.size))) (fun x=>x),hrj.at hb4,hrs.later hb4,r2,r3⟩
 have hD:Dis9 nd t mm gn gs gb W3.heap.size ls dn:=⟨by omega,by omega,by omega,by omega,by omega,by omega,by omega,by omega,by omega,by omega,by omega,by omega,by omega,by omega,by omega,by omega,by omega,by omega,by omega,by omega,by omega,by omega,by omega,by omega,by omega,by omega,by omega,by omega,by omega,by omega,by omega,by omega,by omega,by omega,by omega,by omega⟩
 exact HN.out.add hk ((HB.out.trans ((hbW.trans (hb4.mono hbW.size)).mono HB.out.size))) hRN hD ⟨by omega,by omega,by omega,by omega,by omega,by omega,by omega,by omega,by omega⟩ ⟨by omega,by omega,by omega,by omega,by omega,by omega,by omega,by omega,by omega⟩ hown hgr (by
  rcases hat with q|q
  ·exact .inl q.symm
  ·exact .inr (by rw [q]; rfl))
abbrev nwOps:Array Oper:=#[{ dst:=some 19,op:=Op.move (Operand.tmp 3),type:=40,pos:= "world.go:231",after:=#[],guard:=none },
 { dst:=some 20,op:=Op.move (Operand.tmp 3),type:=40,pos:= "world.go:231",after:=#[],guard:=none },
 { dst:=some 21,op:=Op.nilCheck (Operand.tmp 20),type:=0,pos:= "world.go:231",after:=#[{ on:=1,ground:=Ground.data }],guard:=none },
 { dst:=some 22,op:=Op.fieldAddr 58 (Operand.tmp 21) 1,type:=0,pos:= "world.go:231",after:=#[{ on:=2,ground:=Ground.data }],guard:=none },
 { dst:=some 23,op:=Op.load 53 (Operand.tmp 22),type:=53,pos:= "world.go:231",after:=#[{ on:=3,ground:=Ground.data }],guard:=none },
 { dst:=some 24,op:=Op.move (Operand.tmp 4),type:=3,pos:= "world.go:231",after:=#[],guard:=none },
 { dst:=some 25,op:=Op.move (Operand.tmp 5),type:=59,pos:= "world.go:231",after:=#[],guard:=none },
 { dst:=some 26,op:=Op.call { callee:=Callee.value (Operand.func 21),args:=#[Operand.tmp 24,Operand.tmp 25],argTypes:=#[3,59] },type:=64,pos:= "world.go:231",after:=#[{ on:=5,ground:=Ground.data },{ on:=6,ground:=Ground.data }],guard:=none },
 { dst:=some 27,op:=Op.move (Operand.tmp 5),type:=59,pos:= "world.go:231",after:=#[],guard:=none },
 { dst:=some 28,op:=Op.makeSlice 66 (Operand.const (Value.int IntKind.i64 6)) (Operand.const (Value.int IntKind.i64 6)),type:=66,pos:= "world.go:231",after:=#[],guard:=none },
 { dst:=some 29,op:=Op.makeSlice 67 (Operand.const (Value.int IntKind.i64 6)) (Operand.const (Value.int IntKind.i64 6)),type:=67,pos:= "world.go:231",after:=#[],guard:=none },
 { dst:=some 30,op:=Op.build 69 #[(0,Operand.tmp 26),(1,Operand.tmp 27),(2,Operand.tmp 28),(3,Operand.tmp 29)],type:=69,pos:= "world.go:231",after:=#[{ on:=7,ground:=Ground.data },{ on:=8,ground:=Ground.data },{ on:=9,ground:=Ground.data },{ on:=10,ground:=Ground.data }],guard:=none },
 { dst:=some 31,op:=Op.box 69 (Operand.tmp 30),type:=63,pos:= "world.go:231",after:=#[{ on:=11,ground:=Ground.data }],guard:=none },
 { dst:=some 32,op:=Op.buildSlice 53 1 #[(0,Operand.tmp 31)],type:=53,pos:= "world.go:231",after:=#[{ on:=12,ground:=Ground.data }],guard:=none },
 { dst:=some 33,op:=Op.call { callee:=Callee.builtin Builtin.append,args:=#[Operand.tmp 23,Operand.tmp 32],argTypes:=#[53,53] },type:=53,pos:= "world.go:231",after:=#[{ on:=4,ground:=Ground.data },{ on:=13,ground:=Ground.data },{ on:=7,ground:=Ground.chain }],guard:=none },
 { dst:=some 34,op:=Op.nilCheck (Operand.tmp 19),type:=0,pos:= "world.go:231",after:=#[{ on:=0,ground:=Ground.data },{ on:=0,ground:=Ground.phase },{ on:=1,ground:=Ground.phase },{ on:=2,ground:=Ground.phase },{ on:=3,ground:=Ground.phase },{ on:=4,ground:=Ground.phase },{ on:=5,ground:=Ground.phase },{ on:=6,ground:=Ground.phase },{ on:=7,ground:=Ground.phase },{ on:=8,ground:=Ground.phase },{ on:=9,ground:=Ground.phase },{ on:=10,ground:=Ground.phase },{ on:=11,ground:=Ground.phase },{ on:=12,ground:=Ground.phase },{ on:=13,ground:=Ground.phase },{ on:=14,ground:=Ground.phase }],guard:=none },
 { dst:=some 35,op:=Op.fieldAddr 58 (Operand.tmp 34) 1,type:=0,pos:= "world.go:231",after:=#[{ on:=15,ground:=Ground.data },{ on:=0,ground:=Ground.phase },{ on:=1,ground:=Ground.phase },{ on:=2,ground:=Ground.phase },{ on:=3,ground:=Ground.phase },{ on:=4,ground:=Ground.phase },{ on:=5,ground:=Ground.phase },{ on:=6,ground:=Ground.phase },{ on:=7,ground:=Ground.phase },{ on:=8,ground:=Ground.phase },{ on:=9,ground:=Ground.phase },{ on:=10,ground:=Ground.phase },{ on:=11,ground:=Ground.phase },{ on:=12,ground:=Ground.phase },{ on:=13,ground:=Ground.phase },{ on:=14,ground:=Ground.phase }],guard:=none },
 { dst:=none,op:=Op.store 53 (Operand.tmp 35) (Operand.tmp 33),type:=0,pos:= "world.go:231",after:=#[{ on:=16,ground:=Ground.data },{ on:=14,ground:=Ground.data },{ on:=14,ground:=Ground.chain },{ on:=0,ground:=Ground.phase },{ on:=1,ground:=Ground.phase },{ on:=2,ground:=Ground.phase },{ on:=3,ground:=Ground.phase },{ on:=4,ground:=Ground.phase },{ on:=5,ground:=Ground.phase },{ on:=6,ground:=Ground.phase },{ on:=7,ground:=Ground.phase },{ on:=8,ground:=Ground.phase },{ on:=9,ground:=Ground.phase },{ on:=10,ground:=Ground.phase },{ on:=11,ground:=Ground.phase },{ on:=12,ground:=Ground.phase },{ on:=13,ground:=Ground.phase },{ on:=14,ground:=Ground.phase }],guard:=none }]
def Sm (a0 a:Act):Prop:=a.tmps.size=a0.tmps.size∧a.defers=a0.defers∧∀ i:Nat,(i<19 ∨ i=36)→a.eval (.tmp i)=a0.eval (.tmp i)
theorem Sm.put {a0 a:Act} {d:Nat} {v:Value} (h:Sm a0 a) (h1:19≤d) (h2:d≤35):Sm a0 (a.put (some d) v) :=
 ⟨(Act.size_put _ _ _).trans h.1,(Act.defers_put' _ _ _).trans h.2.1,fun i hi=>(Act.eval_put_ne a d i v (show d≠i by omega)).trans (h.2.2 i hi)⟩
structure NwI (a0:Act) (W w:World) (a:Act) (nv:Value) (xb k r:Nat) (ld cl lL lD:Bool) (t mm gn gs gb ls dn:Nat):Prop where
 sm:Sm a0 a
 sz:a0.tmps.size=37
 e19:a.eval (.tmp 19)=.pointer (some ⟨xb,0,none⟩)
 e22:a.eval (.tmp 22)=.pointer (some ⟨xb,1,none⟩)
 e24:a.eval (.tmp 24)=.int .i64 (k:Int)
 e25:a.eval (.tmp 25)=.pointer (some ⟨r,0,none⟩)
 e27:a.eval (.tmp 27)=.pointer (some ⟨r,0,none⟩)
 bel:Below W.heap.size W w
 e23:ld=true→a.eval (.tmp 23)=nv
 site:cl=true→a.eval (.tmp 26)=.pointer (some ⟨t,0,none⟩)∧RJ w mm gn gs r (dealL (zeroB 512).data.toList) false∧RSt w t mm gb (k:Int) (fun _=>false)∧(W.heap.size≤t∧W.heap.size≤mm∧W.heap.size≤gn∧W.heap.size≤gs∧W.heap.size≤gb)∧(t≠mm∧t≠gn∧t≠gs∧t≠gb)∧(gb≠mm∧gb≠gn∧gb≠gs)
 leads:lL=true→a.eval (.tmp 28)=.slice (some ⟨ls,0,none⟩) 6 6∧w.heap[ls]? = some (.cells #[.pointer none,.pointer none,.pointer none,.pointer none,.pointer none,.pointer none] 111 (0,0))∧W.heap.size≤ls
 done:lD=true→a.eval (.tmp 29)=.slice (some ⟨dn,0,none⟩) 6 6∧w.heap[dn]? = some (.cells #[.bool false,.bool false,.bool false,.bool false,.bool false,.bool false] 4 (0,0))∧W.heap.size≤dn
 xLD:lL=true→lD=true→ls≠dn
 xLS:lL=true→cl=true→ls≠t∧ls≠mm∧ls≠gn∧ls≠gs∧ls≠gb
 xDS:lD=true→cl=true→dn≠t∧dn≠mm∧dn≠gn∧dn≠gs∧dn≠gb
section
variable {Q:Exit→Act→World→Prop} {a0:Act} {W w:World} {a:Act} {nv:Value} {xb k r:Nat} {ld cl lL lD:Bool} {t mm gn gs gb ls dn:Nat} {K:Act→World→Prop}
theorem NwI.size (h:NwI a0 W w a nv xb k r ld cl lL lD t mm gn gs gb ls dn):a.tmps.size=37:=h.sm.1.trans h.sz
theorem NwI.load (h:NwI a0 W w a nv xb k r ld cl lL lD t mm gn gs gb ls dn):NwI a0 W w (a.put (some 23) nv) nv xb k r true cl lL lD t mm gn gs gb ls dn:=by
 have hz:=h.size
 have ne:∀ j,j≠23→(a.put (some 23) nv).eval (.tmp j)=a.eval (.tmp j):=fun j hj=>Act.eval_put_ne _ _ _ _ (Ne.symm hj)
 exact ⟨h.sm.put (by omega) (by omega),h.sz,(ne _ (by decide)).trans h.e19,(ne _ (by decide)).trans h.e22,(ne _ (by decide)).trans h.e24,(ne _ (by decide)).trans h.e25,(ne _ (by decide)).trans h.e27,h.bel,fun _=>Act.eval_put_same _ _ _ (by omega),fun q=>⟨(ne _ (by decide)).trans (h.site q).1,(h.site q).2⟩,fun q=>⟨(ne _ (by decide)).trans (h.leads q).1,(h.leads q).2⟩,fun q=>⟨(ne _ (by decide)).trans (h.done q).1,(h.done q).2⟩,h.xLD,h.xLS,h.xDS⟩
theorem NwI.lead (h:NwI a0 W w a nv xb k r ld cl false lD t mm gn gs gb ls dn):NwI a0 W (w.alloc (.cells #[.pointer none,.pointer none,.pointer none,.pointer none,.pointer none,.pointer none] 111)) (a.put (some 28) (.slice (some ⟨w.heap.size,0,none⟩) 6 6)) nv xb k r ld cl true lD t mm gn gs gb w.heap.size dn:=by
 have hz:=h.size
 have ne:∀ j,j≠28→(a.put (some 28) (.slice (some ⟨w.heap.size,0,none⟩) 6 6)).eval (.tmp j)=a.eval (.tmp j):=fun j hj=>Act.eval_put_ne _ _ _ _ (Ne.symm hj)
 have hb:Below w.heap.size w (w.alloc (.cells #[.pointer none,.pointer none,.pointer none,.pointer none,.pointer none,.pointer none] 111)):=(Below.refl _ _).alloc (Nat.le_refl _) _
 refine ⟨h.sm.put (by omega) (by omega),h.sz,(ne _ (by decide)).trans h.e19,(ne _ (by decide)).trans h.e22,(ne _ (by decide)).trans h.e24,(ne _ (by decide)).trans h.e25,(ne _ (by decide)).trans h.e27,h.bel.trans (hb.mono h.bel.size),fun q=>(ne _ (by decide)).trans (h.e23 q),fun q=>?_,fun _=>⟨Act.eval_put_same _ _ _ (by omega),heap_alloc_new w _,h.bel.size⟩,fun q=>⟨(ne _ (by decide)).trans (h.done q).1,row_alloc (h.done q).2.1,(h.done q).2.2⟩,fun _ q=>?_,fun _ q=>?_,h.xDS⟩
 ·obtain ⟨s1,s2,s3,s4⟩:=h.site q
  exact ⟨(ne _ (by decide)).trans s1,s2.at hb,s3.later hb,s4⟩
 ·have:=row_ltJ (h.done q).2.1; omega
 ·obtain ⟨s1,s2,s3,s4⟩:=h.site q
  obtain ⟨j1,j2,j3⟩:=s2.lts
  have j4:=row_ltJ s3.row; have j5:=row_ltJ s3.refs
  omega
theorem NwI.dn_ (h:NwI a0 W w a nv xb k r ld cl lL false t mm gn gs gb ls dn):NwI a0 W (w.alloc (.cells #[.bool false,.bool false,.bool false,.bool false,.bool false,.bool false] 4)) (a.put (some 29) (.slice (some ⟨w.heap.size,0,none⟩) 6 6)) nv xb k r ld cl lL true t mm gn gs gb ls w.heap.size:=by
 have hz:=h.size
 have ne:∀ j,j≠29→(a.put (some 29) (.slice (some ⟨w.heap.size,0,none⟩) 6 6)).eval (.tmp j)=a.eval (.tmp j):=fun j hj=>Act.eval_put_ne _ _ _ _ (Ne.symm hj)
 have hb:Below w.heap.size w (w.alloc (.cells #[.bool false,.bool false,.bool false,.bool false,.bool false,.bool false] 4)):=(Below.refl _ _).alloc (Nat.le_refl _) _
 refine ⟨h.sm.put (by omega) (by omega),h.sz,(ne _ (by decide)).trans h.e19,(ne _ (by decide)).trans h.e22,(ne _ (by decide)).trans h.e24,(ne _ (by decide)).trans h.e25,(ne _ (by decide)).trans h.e27,h.bel.trans (hb.mono h.bel.size),fun q=>(ne _ (by decide)).trans (h.e23 q),fun q=>?_,fun q=>⟨(ne _ (by decide)).trans (h.leads q).1,row_alloc (h.leads q).2.1,(h.leads q).2.2⟩,fun _=>⟨Act.eval_put_same _ _ _ (by omega),heap_alloc_new w _,h.bel.size⟩,fun q _=>?_,h.xLS,fun _ q=>?_⟩
 ·obtain ⟨s1,s2,s3,s4⟩:=h.site q
  exact ⟨(ne _ (by decide)).trans s1,s2.at hb,s3.later hb,s4⟩
 ·have:=row_ltJ (h.leads q).2.1; omega
 ·obtain ⟨s1,s2,s3,s4⟩:=h.site q
  obtain ⟨j1,j2,j3⟩:=s2.lts
  have j4:=row_ltJ s3.row; have j5:=row_ltJ s3.refs
  omega
theorem NwI.call {w1:World} {t' m' n' s' b':Nat} (h:NwI a0 W w a nv xb k r ld false lL lD t mm gn gs gb ls dn) (hj:RJ w1 m' n' s' r (dealL (zeroB 512).data.toList) false) (hs:RSt w1 t' m' b' (k:Int) (fun _=>false)) (hb:Below w.heap.size w w1) (q1:w.heap.size≤m') (q2:w.heap.size≤n') (q3:w.heap.size≤s') (q4:w.heap.size≤b') (ht:t'≠m'∧t'≠n'∧t'≠s'∧t'≠b') (q5:w.heap.size≤t') (hg:b'≠m'∧b'≠n'∧b'≠s') :
  NwI a0 W w1 (a.put (some 26) (.pointer (some ⟨t',0,none⟩))) nv xb k r ld true lL lD t' m' n' s' b' ls dn:=by
 have hz:=h.size
 have hW:=h.bel.size
 have ne:∀ j,j≠26→(a.put (some 26) (.pointer (some ⟨t',0,none⟩))).eval (.tmp j)=a.eval (.tmp j):=fun j hj=>Act.eval_put_ne _ _ _ _ (Ne.symm hj)
 refine ⟨h.sm.put (by omega) (by omega),h.sz,(ne _ (by decide)).trans h.e19,(ne _ (by decide)).trans h.e22,(ne _ (by decide)).trans h.e24,(ne _ (by decide)).trans h.e25,(ne _ (by decide)).trans h.e27,h.bel.trans (hb.mono h.bel.size),fun q=>(ne _ (by decide)).trans (h.e23 q),fun _=>⟨Act.eval_put_same _ _ _ (by omega),hj,hs,⟨by omega,by omega,by omega,by omega,by omega⟩,ht,hg⟩,fun q=>⟨(ne _ (by decide)).trans (h.leads q).1,row_below hb (h.leads q).2.1,(h.leads q).2.2⟩,fun q=>⟨(ne _ (by decide)).trans (h.done q).1,row_below hb (h.done q).2.1,(h.done q).2.2⟩,h.xLD,fun q _=>?_,fun q _=>?_⟩
 ·have:=row_ltJ (h.leads q).2.1; omega
 ·have:=row_ltJ (h.done q).2.1; omega
theorem nw_load (h:NwI a0 W w a nv xb k r ld cl lL lD t mm gn gs gb ls dn) (hc:w.cell? ⟨xb,1,none⟩=some nv) (hK:∀ a',NwI a0 W w a' nv xb k r true cl lL lD t mm gn gs gb ls dn→K a' w):wpOp Tryz.prog nwOps Q 4 K a w:=by
 refine wpOp_step (o:={ dst:=some 23,op:=Op.load 53 (Operand.tmp 22),type:=53,pos:= "world.go:231",after:=#[{ on:=3,ground:=Ground.data }],guard:=none }) rfl (fun K' hK'=>?_)
 have e0:=eval_form h.e22
 have HK:=hid (hK' _ _ (hK _ h.load))
 clear hK hK' h
 go_simp
 exact HK.out
theorem nw_lead (h:NwI a0 W w a nv xb k r ld cl false lD t mm gn gs gb ls dn) (hK:∀ a' w' ls',NwI a0 W w' a' nv xb k r ld cl true lD t mm gn gs gb ls' dn→K a' w'):wpOp Tryz.prog nwOps Q 9 K a w:=by
 refine wpOp_step (o:={ dst:=some 28,op:=Op.makeSlice 66 (Operand.const (Value.int IntKind.i64 6)) (Operand.const (Value.int IntKind.i64 6)),type:=66,pos:= "world.go:231",after:=#[],guard:=none }) rfl (fun K' hK'=>?_)
 have hm:=mkRL w
 have HK:=hid (hK' _ _ (hK _ _ _ h.lead))
 clear hK hK' h
 go_simp
 exact HK.out
theorem nw_done (h:NwI a0 W w a nv xb k r ld cl lL false t mm gn gs gb ls dn) (hK:∀ a' w' dn',NwI a0 W w' a' nv xb k r ld cl lL true t mm gn gs gb ls dn'→K a' w'):wpOp Tryz.prog nwOps Q 10 K a w:=by
 refine wpOp_step (o:={ dst:=some 29,op:=Op.makeSlice 67 (Operand.const (Value.int IntKind.i64 6)) (Operand.const (Value.int IntKind.i64 6)),type:=67,pos:= "world.go:231",after:=#[],guard:=none }) rfl (fun K' hK'=>?_)
 have hm:=mkBo w
 have HK:=hid (hK' _ _ (hK _ _ _ h.dn_))
 clear hK hK' h
 go_simp
 exact HK.out
theorem nw_call (h:NwI a0 W w a nv xb k r ld false lL lD t mm gn gs gb ls dn) (hr:RP W r (zeroB 512) false 0 false) (hK:∀ a' w' t' m' n' s' b',NwI a0 W w' a' nv xb k r ld true lL lD t' m' n' s' b' ls dn→K a' w'):wpOp Tryz.prog nwOps Q 7 K a w:=by
 refine wpOp_step (o:={ dst:=some 26,op:=Op.call { callee:=Callee.value (Operand.func 21),args:=#[Operand.tmp 24,Operand.tmp 25],argTypes:=#[3,59] },type:=64,pos:= "world.go:231",after:=#[{ on:=5,ground:=Ground.data },{ on:=6,ground:=Ground.data }],guard:=none }) rfl (fun K' hK'=>?_)
 have e0:=eval_form h.e24
 have e1:=eval_form h.e25
 have HC:=hid (rsnew_rp r (zeroB 512) false false 0 (k:Int) w (hr.kept (S:=fun _=>False) (Kept.of_below h.bel) (fun x=>x)) (by rw [zeroB_size]; omega) (by rw [zeroB_size]; omega))
 have H:=hid h
 have HK:=hid hK
 have HK':=hid hK'
 clear hK hK' h hr
 go_simp
 refine HC.out.mono ?_
 rintro e w1 ⟨t',m',n',s',b',rfl,hj,hs,hb,q1,q2,q3,q4,t1,t2,t3,t4,q5,g1,g2,g3⟩
 exact HK'.out _ _ (HK.out _ _ _ _ _ _ _ (H.out.call hj hs hb q1 q2 q3 q4 ⟨t1,t2,t3,t4⟩ q5 ⟨g1,g2,g3⟩))
end
end Go.Proofs.YtaehdgemkafinaaGreatDoor
