/-
  On the way to WStepsProof: X1 X2 X3 X4.
-/
import Derived.Test.YtadhpkopkkjmfaaGreatDoorBz59
set_option maxHeartbeats 8000000
set_option maxRecDepth 100000
namespace Go.Proofs.YtadhpkopkkjmfaaGreatDoor
open Go.RowKit
def freeTo (V:PX) (d:Nat):Nat→Bool
 | 0=>true
 | k+1=>freeTo V d k && ((V.nd k).ld d).isNone && decide ((stN (V.nd k) d).ph=0∧(stN (V.nd k) d).pr=0∧(stN (V.nd k) d).at_=0)
theorem freeTo_held (V:PX) (d:Nat):∀ n,heldX n V d=!freeTo V d n
 | 0=>rfl
 | n+1=>by
  have ih:=freeTo_held V d n
  unfold heldX at ih ⊢
  rw [List.range_succ,List.any_append,ih,freeTo]
  cases freeTo V d n
  ·simp
  ·cases h:(V.nd n).ld d <;> simp [h]
section
variable {w0 w w1 w':World} {C C':Nat→Nat} {K:RB} {Y:YB} {aw:Option Addr} {i n cap m m':Nat} {zs:List Int} {N:PN} {V V':PX}
theorem freeTo_mono {d k:Nat} (h:freeTo V d k=false):∀ j,freeTo V d (k+j)=false
 | 0=>h
 | j+1=>by
  show freeTo V d (k+j+1)=false
  rw [freeTo,freeTo_mono h j]
  rfl
theorem rbegin_up (s d:Nat) (c:Nat) (h:RW w0 w C Y aw cap zs V m) (hs:s<zs.length) (hd:d<6) (hu:upN (V.nd s)=true) (hm:m<1000000) (hc:(if heldX zs.length V d=true then 8 else 0)=c) :
  Calls Tryz.prog 88 #[.pointer (some ⟨Y.xb,0,none⟩),.int .i64 (s:Int),.int .i64 (d:Int)] w fun e w'=>e=.returned (.int .i64 (c:Int))∧ROut w0 w w' C Y aw cap zs (if c=0 then beginX zs V s d else V) (m+1):=by
 have H:=hid h
 have HU:=hid (rup_is (s:Int) 0 h (by unfold cUp; rw [if_pos ⟨by omega,by omega⟩,Int.toNat_natCast,if_pos hu]))
 have HUP:=hid hu
 obtain ⟨c0,c1,-,-,-⟩:=h.cells
 have n7:=h.n7
 have HS:=hid hs
 have HC:=hid hc
 obtain ⟨z,hz⟩:∃ z,Hid (zs.length=z):=⟨_,rfl⟩
 rw [hz.out] at c0 c1 hs n7
 have hsz:¬ ((z:Int)≤(s:Int)):=by omega
 clear h hu hc
 go_enter Tryz.func88,Tryz.ntmps88
 go_wp2_with fail
 refine HU.out.mono ?_
 rintro e w1 ⟨rfl,hx⟩
 subst w1
 go_wp2_with fail
 go_loopw [8] (fun q wr=>∃ k:Nat,k≤z∧q=.int .i64 (k:Int)∧freeTo V d k=true∧Below w.heap.size w wr) (fun q _=>z - (intOf q).toNat)
 case atStart=>exact ⟨0,Nat.zero_le _,rfl,rfl,Below.refl _ _⟩
 case round =>
  obtain ⟨k,hk,rfl,hf,hb⟩:=hrel
  rename_i wr
  have HF:=hid hf
  have HB:=hid hb
  have c1r:=cell_later hb c1
  clear hf hb
  by_cases hlt:k<z
  ·have hkz:k<zs.length:=by rw [hz.out]; exact hlt
   have HR:=hid (H.out.later HB.out)
   obtain ⟨⟨h1,h2,h3⟩,HST⟩:∃ x,Hid (stN (V.nd k) d=x):=⟨_,rfl⟩
   have HSt:=hid (rstate_is k d h1 h2 h3 HR.out hkz hd HST.out)
   obtain ⟨p,HP⟩:∃ p,Hid ((!decide (h1=0∧h2=0∧h3=0))=p):=⟨_,rfl⟩
   have hp:∀ w,(binOp .neq 43 (.agg #[.int .i64 (h1:Int),.int .i64 (h2:Int),.int .i64 (h3:Int)]) (.agg #[.int .i64 0,.int .i64 0,.int .i64 0])).run Tryz.prog w=.ok (.bool p) w:=fun w=>by rw [← HP.out]; exact st_ne0 h1 h2 h3 w
   have HNext:Hid (freeTo V d (k+1)=(((V.nd k).ld d).isNone && !p)):=by
    show freeTo V d (k+1)=_
    rw [freeTo,HF.out,HST.out,← HP.out]; simp
   have HHeld:Hid (freeTo V d (k+1)=false→c=8):=by
    intro hff
    have h5:=freeTo_mono hff (z - (k+1))
    rw [show k+1+(z - (k+1))=z by omega] at h5
    have:=HC.out
    rw [freeTo_held,hz.out,h5] at this
    rw [← this]; rfl
   have hkI:(k:Int)<(z:Int):=by omega
   unfold agS at HSt
   go_wp2_with fail
   refine HSt.out.mono ?_
   rintro e w2 ⟨rfl,hb2⟩
   have HB2:=hid (HB.out.trans (hb2.mono HB.out.size))
   have HR2:=hid (HR.out.later hb2)
   clear hb2 c1r
   obtain ⟨-,c1r,-,-,-⟩:=HR2.out.cells
   rw [hz.out] at c1r
   have e1:=HR2.out.ns k hkz
   obtain ⟨-,-,d2,-⟩:=(HR2.out.nds k hkz).cells
   have e3:=(HR2.out.nds k hkz).lead hd
   cases p with
   | true =>
    obtain rfl:c=8:=HHeld.out (by rw [HNext.out]; simp)
    go_wp2_with fail
    go_ret
    exact ⟨rfl,H.out.out HB2.out (Nat.le_succ _)⟩
   | false =>
    cases hx:(V.nd k).ld d with
    | some x =>
     obtain rfl:c=8:=HHeld.out (by rw [HNext.out,hx]; rfl)
     rw [rldV_some hx] at e3
     clear hx
     go_wp2_with fail
     go_ret
     exact ⟨rfl,H.out.out HB2.out (Nat.le_succ _)⟩
    | none =>
     have HN:=hid (show freeTo V d (k+1)=true by rw [HNext.out,hx]; rfl)
     rw [rldV_none hx] at e3
     clear hx
     go_wp2_with fail
     go_roundw
     case rel=>exact ⟨k+1,by omega,by go_num,HN.out,HB2.out⟩
     case measure=>simp [intOf]; omega
  ·obtain rfl:k=z:=by omega
   have HC0:Hid (c=0):=by
    have:=HC.out
    rw [freeTo_held,hz.out,HF.out] at this
    rw [← this]; rfl
   obtain rfl:=HC0.out
   have HR:=hid (H.out.later HB.out)
   clear c1r c1
   obtain ⟨c0r,c1r,-,-,-⟩:=HR.out.cells
   rw [hz.out] at c0r c1r
   have HNw:=hid (fun w=>rlnew_any s k cap (d:Int) 0 aw w)
   go_wp2_with fail
   refine (HNw.out _).mono ?_
   rintro e w2 ⟨lb,rfl,hl2,hb2,hlb⟩
   have HB2:=hid (HB.out.trans (hb2.mono HB.out.size))
   have HR2:=hid (HR.out.later hb2)
   have HL2:=hid (And.intro hl2 hlb)
   have HBb:=hid hb2
   clear hl2 hb2 hlb c0r c1r c0
   obtain ⟨-,c1r,-,-,-⟩:=HR2.out.cells
   rw [hz.out] at c1r
   have e1:=HR2.out.ns s HS.out
   obtain ⟨-,-,d2,-⟩:=(HR2.out.nds s HS.out).cells
   have e3:=(HR2.out.nds s HS.out).lead hd
   have f3:w2.frozen? ⟨(Y.K s).ls,d,none⟩=false:=frozen_of_row _ _ _ _ _ (HR2.out.nds s HS.out).lrow
   obtain ⟨W3,HW3⟩:∃ W3,Hid (w2.setCell ⟨(Y.K s).ls,d,none⟩ (.pointer (some ⟨lb,0,none⟩))=W3):=⟨_,rfl⟩
   have hW3:=HW3.out
   have HN3:Hid (∃ C3,RW w0 W3 C3 { Y with K:=fun e=>if e=s then updK (Y.K s) d lb (.slice none 0 0) else Y.K e } aw cap zs (setNd V s (setLd (V.nd s) d (0,P0))) m∧Kept (OwnX C) wr W3∧(∀ x,x<wr.heap.size→C3 x=C x)):=by
    have:=HR.out.leadNew (m':=m) (a:=0) HS.out hd HUP.out HBb.out (by rw [hz.out]; exact HL2.out.1) HL2.out.2 ⟨Int.le_refl _,by decide⟩ (Nat.le_refl _)
    rw [HW3.out] at this
    obtain ⟨C3,x1,x2,x3,-⟩:=this
    exact ⟨C3,x1,x2,x3⟩
   obtain ⟨C3,hRW3,hK3,hC3⟩:=HN3.out
   have HRW3:=hid hRW3
   have HK3:=hid hK3
   have HC3:=hid hC3
   have HRL3:Hid (∃ L:LSt,RLd W3 lb s k cap (d:Int) 0 aw (stB L.stt) L.wait (.slice none 0 0) L.hs L.ph L.seen):=by
    obtain ⟨L,-,r2⟩:=(hRW3.nds s HS.out).lds d hd (0,P0) (by simp [setNd,setLd])
    refine ⟨L,?_⟩
    rw [← hz.out]
    simpa [updK] using r2
   obtain ⟨L,hRL3⟩:=HRL3.out
   have HSt:=hid (rlstart_any hRL3 (by omega))
   rw [start_asks] at HSt
   have HF2:=hid (toL_start HS.out (by rw [hz.out]; exact n7.2) hd)
   clear hRW3 hK3 hC3 hRL3
   go_wp2_with fail
   refine HSt.out.mono ?_
   rintro e w4 ⟨v,rfl,hv4,hb4⟩
   have HSe:=hid (rsend_any v _ (HRW3.out.later hb4) hv4 (by rw [← hz.out]; exact HF2.out.1) (by rw [← hz.out]; exact HF2.out.2) (by omega))
   have HB4:=hid hb4
   clear hv4 hb4
   go_wp2_with fail
   refine HSe.out.mono ?_
   rintro e w5 ⟨rfl,ho5⟩
   have HO5:=hid ho5
   clear ho5
   go_wp2_with fail
   go_ret
   refine ⟨rfl,?_⟩
   have e9:beginX zs V s d=sendX (setNd V s (setLd (V.nd s) d (0,P0))) (toL s d 1 0 0 k):=by unfold beginX; rw [hz.out]
   rw [e9]
   refine ROut.step (Y1:={ Y with K:=fun e=>if e=s then updK (Y.K s) d lb (.slice none 0 0) else Y.K e }) (C1:=C3) (w1:=w4) (rkey_K rfl) ((Kept.of_below HB.out).trans (HK3.out.trans (Kept.of_below HB4.out))) (fun x hx=>HC3.out x (Nat.lt_of_lt_of_le hx HB.out.size)) HO5.out
theorem rbegin_any (s d:Int) (c:Nat) (h:RW w0 w C Y aw cap zs V m) (hm:m<1000000) (hc:cBeg zs.length V s d=c) :
  Calls Tryz.prog 88 #[.pointer (some ⟨Y.xb,0,none⟩),.int .i64 s,.int .i64 d] w fun e w'=>e=.returned (.int .i64 (c:Int))∧ROut w0 w w' C Y aw cap zs (if c=0 then beginX zs V s.toNat d.toNat else V) (m+1):=by
 by_cases hin:(0≤s∧s<zs.length)∧0≤d∧d<6
 ·obtain ⟨k,rfl⟩:=Int.eq_ofNat_of_zero_le hin.1.1
  obtain ⟨e,rfl⟩:=Int.eq_ofNat_of_zero_le hin.2.1
  rw [Int.toNat_natCast,Int.toNat_natCast]
  unfold cBeg at hc
  rw [if_pos hin,Int.toNat_natCast,Int.toNat_natCast] at hc
  by_cases hu:upN (V.nd k)=true
  ·rw [if_pos hu] at hc
   exact rbegin_up k e c h (by omega) (by omega) hu hm hc
  ·rw [if_neg hu] at hc
   subst hc
   have H:=hid h
   have HU:=hid (rup_is (k:Int) 6 h (by unfold cUp; rw [if_pos hin.1,Int.toNat_natCast,if_neg hu]))
   obtain ⟨c0,c1,-,-,-⟩:=h.cells
   obtain ⟨z,hz⟩:∃ z,Hid (zs.length=z):=⟨_,rfl⟩
   rw [hz.out] at c0 c1 hin
   have hsz:¬ ((z:Int)≤(k:Int)):=by omega
   have hd6:¬ ((6:Int)≤(e:Int)):=by omega
   have hd:e<6:=by omega
   have hs:k<z:=by omega
   rw [if_neg (by decide)]
   clear h hu hin
   go_enter Tryz.func88,Tryz.ntmps88
   go_wp2_with fail
   refine HU.out.mono ?_
   rintro e w1 ⟨rfl,hx⟩
   subst w1
   go_wp2_with fail
   go_ret
   exact ⟨rfl,H.out.out (Below.refl _ _) (Nat.le_succ _)⟩
 ·have e:c=2:=by rw [← hc]; unfold cBeg; rw [if_neg hin]
  subst e
  rw [if_neg (by decide)]
  have H:=hid h
  obtain ⟨-,c1,-,-,-⟩:=h.cells
  obtain ⟨z,hz⟩:∃ z,Hid (zs.length=z):=⟨_,rfl⟩
  rw [hz.out] at c1 hin
  clear h hc
  by_cases d0:d<0
  ·clear hin
   go_enter Tryz.func88,Tryz.ntmps88
   go_wp2_with fail
   go_ret
   exact ⟨rfl,H.out.out (Below.refl _ _) (Nat.le_succ _)⟩
  ·by_cases d6:(6:Int)≤d
   ·clear hin
    go_enter Tryz.func88,Tryz.ntmps88
    go_wp2_with fail
    go_ret
    exact ⟨rfl,H.out.out (Below.refl _ _) (Nat.le_succ _)⟩
   ·by_cases s0:s<0
    ·clear hin
     go_enter Tryz.func88,Tryz.ntmps88
     go_wp2_with fail
     go_ret
     exact ⟨rfl,H.out.out (Below.refl _ _) (Nat.le_succ _)⟩
    ·have sz:(z:Int)≤s:=by omega
     clear hin
     go_enter Tryz.func88,Tryz.ntmps88
     go_wp2_with fail
     go_ret
     exact ⟨rfl,H.out.out (Below.refl _ _) (Nat.le_succ _)⟩
end
section
variable {w0 w w1 w':World} {C C':Nat→Nat} {K:RB} {Y:YB} {aw:Option Addr} {i n cap m m':Nat} {zs:List Int} {N:PN} {V V':PX}
def paint5 (C:Nat→Nat) (i t m gn gs gb:Nat):Nat→Nat:=paint (paint (paint (paint (paint C t (100 * i+2)) m (100 * i+3)) gn (100 * i+4)) gs (100 * i+5)) gb (100 * i+6)
theorem paint5_lt {t mm gn gs gb b:Nat} (h:b≤t∧b≤mm∧b≤gn∧b≤gs∧b≤gb) {x:Nat} (hx:x<b):paint5 C i t mm gn gs gb x=C x:=by
 unfold paint5
 rw [paint_ne (by omega),paint_ne (by omega),paint_ne (by omega),paint_ne (by omega),paint_ne (by omega)]
theorem paint5_at {t mm gn gs gb:Nat} (h1:t≠mm∧t≠gn∧t≠gs∧t≠gb) (h2:gb≠mm∧gb≠gn∧gb≠gs) (h3:mm≠gn∧mm≠gs∧gn≠gs) :
  paint5 C i t mm gn gs gb t=100 * i+2∧paint5 C i t mm gn gs gb mm=100 * i+3∧paint5 C i t mm gn gs gb gn=100 * i+4∧paint5 C i t mm gn gs gb gs=100 * i+5∧paint5 C i t mm gn gs gb gb=100 * i+6:=by
 unfold paint5
 refine ⟨?_,?_,?_,?_,?_⟩
 ·rw [paint_ne h1.2.2.2,paint_ne h1.2.2.1,paint_ne h1.2.1,paint_ne h1.1,paint_at]
 ·rw [paint_ne (Ne.symm h2.1),paint_ne h3.2.1,paint_ne h3.1,paint_at]
 ·rw [paint_ne (Ne.symm h2.2.1),paint_ne h3.2.2,paint_at]
 ·rw [paint_ne (Ne.symm h2.2.2),paint_at]
 ·rw [paint_at]
theorem paint5_in {t mm gn gs gb x:Nat} (h:paint5 C i t mm gn gs gb x<2000):C x<2000 ∨ x=t ∨ x=mm ∨ x=gn ∨ x=gs ∨ x=gb:=by
 unfold paint5 at h
 by_cases e5:x=gb
 ·omega
 ·rw [paint_ne e5] at h
  by_cases e4:x=gs
  ·omega
  ·rw [paint_ne e4] at h
   by_cases e3:x=gn
   ·omega
   ·rw [paint_ne e3] at h
    by_cases e2:x=mm
    ·omega
    ·rw [paint_ne e2] at h
     by_cases e1:x=t
     ·omega
     ·rw [paint_ne e1] at h
      exact .inl h
structure WkI (w w1 w2:World) (r i:Nat) (B:ByteArray) (l:Int) (t mm gn gs gb:Nat):Prop where
 k1:Kept (In1 r) w w1
 rp:RP w1 r B false l false
 rj:RJ w2 mm gn gs r (dealL B.data.toList) false
 rs:RSt w2 t mm gb (i:Int) (fun _=>false)
 b2:Below w1.heap.size w1 w2
 lo:w1.heap.size≤t∧w1.heap.size≤mm∧w1.heap.size≤gn∧w1.heap.size≤gs∧w1.heap.size≤gb
 ht:t≠mm∧t≠gn∧t≠gs∧t≠gb
 hb:gb≠mm∧gb≠gn∧gb≠gs
def wakeK (K:RB) (t mm gn gs gb:Nat):RB:={ K with t:=t,m:=mm,gn:=gn,gs:=gs,gb:=gb }
theorem RN.dark (h:NI n N m) (hl:N.l=-2) (d:Nat):N.ld d=none:=by
 cases hd:N.ld d with
 | none=>rfl
 | some x=>exact ((h.ld d x hd).1 hl).elim
theorem WkI.lts {w w1 w2:World} {r i:Nat} {B:ByteArray} {l:Int} {t mm gn gs gb:Nat} (h:WkI w w1 w2 r i B l t mm gn gs gb):t<w2.heap.size∧mm<w2.heap.size∧gn<w2.heap.size∧gs<w2.heap.size∧gb<w2.heap.size:=by
 obtain ⟨e1,e2,e3⟩:=h.rj.lts
 exact ⟨row_ltJ h.rs.row,e1,e2,e3,row_ltJ h.rs.refs⟩
theorem RW.wakeNT {w2:World} {l:Int} {t mm gn gs gb:Nat} (h:RW w0 w C Y aw cap zs V m) (hi:i<zs.length) (hw:WkI w w1 w2 (Y.K i).r i (V.nd i).B l t mm gn gs gb) :
  NT w0.heap.size (w2.setCell ⟨(Y.K i).nd,0,none⟩ (.pointer (some ⟨t,0,none⟩))) (paint5 C i t mm gn gs gb) Y (wakeK (Y.K i) t mm gn gs gb) aw cap zs.length i (fun d=>finB (stN (V.nd i) d).ph) (dealL (V.nd i).B.data.toList) V.evs:=by
 have n7:=h.n7.2
 have hN:=h.nds i hi
 have e1:=hN.cn; have e2:=hN.cr; have e3:=hN.cl; have e4:=hN.cd; have cx:=h.cx; have cn:=h.cn
 have hsz:=hw.k1.size
 have hlo:=hw.lo
 have hlt:=hw.lts
 have lnd:=row_ltJ hN.row
 have hC:∀ x,x<w.heap.size→paint5 C i t mm gn gs gb x=C x:=fun x hx=>paint5_lt (b:=w1.heap.size) hlo (by omega)
 have hCo:∀ {x c:Nat},C x=c→c<2000→paint5 C i t mm gn gs gb x=c:=fun {x c} e hc=>(hC x (h.lt x (by omega))).trans e
 obtain ⟨p1,p2,p3,p4,p5⟩:=paint5_at (C:=C) (i:=i) hw.ht hw.hb ⟨hw.rj.mn,hw.rj.ms,hw.rj.ns⟩
 have k2:Kept (In1 (Y.K i).r) w w2:=hw.k1.trans (Kept.of_below hw.b2)
 have k3:Kept (In1 (Y.K i).nd) w2 (w2.setCell ⟨(Y.K i).nd,0,none⟩ (.pointer (some ⟨t,0,none⟩))):=(Kept.refl _ w2).set1 0 _
 have nr:∀ x,C x≠100 * i+7→¬ In1 (Y.K i).r x:=fun x q hx=>q (by rw [show x=_ from hx]; exact e2)
 have nn:∀ x,x≠(Y.K i).nd→¬ In1 (Y.K i).nd x:=fun x q hx=>q hx
 have nc:∀ x,C x≠100 * i+1→¬ In1 (Y.K i).nd x:=fun x q hx=>q (by rw [show x=_ from hx]; exact e1)
 have hrow:w2.heap[(Y.K i).nd]? = some (.cells (rndC (Y.K i) (V.nd i)).toArray 157 (0,0)):=k2.row hN.row (nr _ (by omega))
 have hrow3:=heap_setCell_same w2 (Y.K i).nd 0 _ _ (.pointer (some ⟨t,0,none⟩)) hrow
 obtain ⟨cnn,cs,m1⟩:=hw.rj.row
 obtain ⟨T,t1,t2⟩:=hw.rj.sts
 have r3:=hw.rs.kept k3 (nn _ (by omega)) (nn _ (by omega))
 have m3:=k3.row m1 (nn _ (by omega))
 have t3:=k3.row t1 (nn _ (by omega))
 refine ⟨k3.row (k2.row h.row (nr _ (by omega))) (nc _ (by omega)),cell_kept (cell_kept (h.ns i hi) k2 (nr Y.nb (by omega))) k3 (nc Y.nb (by omega)),?_,?_,r3.cells.2.1,⟨cs,?_⟩,fun d hd=>?_,k3.row (k2.row hN.drow (nr (Y.K i).dn (by omega))) (nc (Y.K i).dn (by omega)),own_kept (own_kept h.evs k2 (fun g hg=>nr g (by have:=h.ce g hg; omega))) k3 (fun g hg=>nc g (by have:=h.ce g hg; omega)),h.inv.ev,by omega,hCo cx (by omega),hCo cn (by omega),hCo e1 (by omega),p1,p2,p4,hCo e4 (by omega),fun g hg=>hCo (h.ce g hg) (by omega),fun x hx=>?_⟩
 ·show (w2.setCell ⟨(Y.K i).nd,0,none⟩ (.pointer (some ⟨t,0,none⟩))).cell? ⟨(Y.K i).nd,0,none⟩=_
  rw [cell_of_row _ _ _ _ _ _ hrow3]; rfl
 ·show (w2.setCell ⟨(Y.K i).nd,0,none⟩ (.pointer (some ⟨t,0,none⟩))).cell? ⟨(Y.K i).nd,3,none⟩=_
  rw [cell_of_row _ _ _ _ _ _ hrow3]; rfl
 ·show (w2.setCell ⟨(Y.K i).nd,0,none⟩ (.pointer (some ⟨t,0,none⟩))).cell? ⟨mm,2,none⟩=_
  rw [cell_of_row _ _ _ _ _ _ m3]; rfl
 ·show (w2.setCell ⟨(Y.K i).nd,0,none⟩ (.pointer (some ⟨t,0,none⟩))).cell? ⟨gs,d * 3,none⟩=_
  rw [cell_of_row _ _ _ _ _ _ t3]
  exact (t2 d hd).1
 ·have hx2:=paint5_in hx
  have hb2:=hw.b2.size
  show x<(w2.setCell _ _).heap.size
  rw [show (w2.setCell ⟨(Y.K i).nd,0,none⟩ (.pointer (some ⟨t,0,none⟩))).heap.size=w2.heap.size by simp]
  rcases hx2 with q|q|q|q|q|q
  ·have:=h.lt x q; omega
  all_goals omega
theorem RW.wakeOut {w2 w4:World} {l:Int} {t mm gn gs gb:Nat} (h:RW w0 w C Y aw cap zs V m) (hi:i<zs.length) (hl:(V.nd i).l=-2) (hw:WkI w w1 w2 (Y.K i).r i (V.nd i).B l t mm gn gs gb)
  (hn:NTo w0.heap.size (w2.setCell ⟨(Y.K i).nd,0,none⟩ (.pointer (some ⟨t,0,none⟩))) w4 (paint5 C i t mm gn gs gb) Y (wakeK (Y.K i) t mm gn gs gb) aw cap zs.length i (noteG (fun d=>finB (stN (V.nd i) d).ph) (fun d=>(dealL (V.nd i).B.data.toList d).2.ph) 6) (dealL (V.nd i).B.data.toList) (noteL V.evs i (fun d=>finB (stN (V.nd i) d).ph) (fun d=>(dealL (V.nd i).B.data.toList d).2.ph) 6)) (hm:m≤m') :
  ROut w0 w w4 C Y aw cap zs (upX V i) m':=by
 have n7:=h.n7.2
 have hN:=h.nds i hi
 have hI:=h.inv.nd i hi
 have e1:=hN.cn; have e2:=hN.cr; have e3:=hN.cl; have e4:=hN.cd
 have hsz:=hw.k1.size
 have hlo:=hw.lo
 have hlt:=hw.lts
 have lnd:=row_ltJ hN.row
 have lls:=row_ltJ hN.lrow
 have ldn:=row_ltJ hN.drow
 have lr:(Y.K i).r<w.heap.size:=h.lt _ (by omega)
 have hC:∀ x,x<w.heap.size→paint5 C i t mm gn gs gb x=C x:=fun x hx=>paint5_lt (b:=w1.heap.size) hlo (by omega)
 obtain ⟨p1,p2,p3,p4,p5⟩:=paint5_at (C:=C) (i:=i) hw.ht hw.hb ⟨hw.rj.mn,hw.rj.ms,hw.rj.ns⟩
 rw [noteL_none (F:=V.evs) (i:=i) (g:=fun d=>finB (stN (V.nd i) d).ph) (p:=fun d=>(dealL (V.nd i).B.data.toList d).2.ph) (fun e _=>rfl)] at hn
 obtain ⟨C4,v,nt,k4,hC4⟩:=hn
 have hs3:(w2.setCell ⟨(Y.K i).nd,0,none⟩ (.pointer (some ⟨t,0,none⟩))).heap.size=w2.heap.size:=by simp
 have hb2:=hw.b2.size
 rw [hs3] at hC4
 have hC4w:∀ x,x<w.heap.size→C4 x=C x:=fun x hx=>(hC4 x (by omega)).trans (hC x hx)
 have k2:Kept (In1 (Y.K i).r) w w2:=hw.k1.trans (Kept.of_below hw.b2)
 have k3:Kept (In1 (Y.K i).nd) w2 (w2.setCell ⟨(Y.K i).nd,0,none⟩ (.pointer (some ⟨t,0,none⟩))):=(Kept.refl _ w2).set1 0 _
 have nr:∀ x,C x≠100 * i+7→¬ In1 (Y.K i).r x:=fun x q hx=>q (by rw [show x=_ from hx]; exact e2)
 have nc:∀ x,C x≠100 * i+1→¬ In1 (Y.K i).nd x:=fun x q hx=>q (by rw [show x=_ from hx]; exact e1)
 have nn:∀ x,x≠(Y.K i).nd→¬ In1 (Y.K i).nd x:=fun x q hx=>q hx
 have n4:∀ x,paint5 C i t mm gn gs gb x≠1001→paint5 C i t mm gn gs gb x≠1006→paint5 C i t mm gn gs gb x≠100 * i+9→¬ InN (paint5 C i t mm gn gs gb) i x:=fun x q1 q2 q3 hx=>by
  rcases hx with q|q|q <;> omega
 have kS:Kept (fun x=>C x=100 * i+1 ∨ C x=100 * i+7 ∨ C x=1001 ∨ C x=1006 ∨ C x=100 * i+9) w w4:=by
  have a1:Kept (fun x=>C x=100 * i+1 ∨ C x=100 * i+7 ∨ C x=1001 ∨ C x=1006 ∨ C x=100 * i+9) w (w2.setCell ⟨(Y.K i).nd,0,none⟩ (.pointer (some ⟨t,0,none⟩))):=(k2.mono (fun x hx=>by rw [show x=_ from hx]; exact .inr (.inl e2))).setCell (.inl e1) _
  refine ⟨k4.os.trans a1.os,k4.tape.trans a1.tape,k4.output.trans a1.output,Nat.le_trans a1.size k4.size,fun y hy hn=>?_⟩
  refine (k4.block y (Nat.lt_of_lt_of_le hy a1.size) (fun q=>hn ?_)).trans (a1.block y hy hn)
  unfold InN at q
  rw [hC y hy] at q
  rcases q with q|q|q
  ·exact .inr (.inr (.inl q))
  ·exact .inr (.inr (.inr (.inl q)))
  ·exact .inr (.inr (.inr (.inr q)))
 have c1:=hC _ lnd; have c2:=hC _ lr; have c3:=hC _ lls; have c4:=hC _ ldn
 have hrow:w2.heap[(Y.K i).nd]? = some (.cells (rndC (Y.K i) (V.nd i)).toArray 157 (0,0)):=k2.row hN.row (nr _ (by omega))
 have hrow3:=heap_setCell_same w2 (Y.K i).nd 0 _ _ (.pointer (some ⟨t,0,none⟩)) hrow
 have hrow4:=k4.row hrow3 (n4 _ (by omega) (by omega) (by omega))
 have hrp:RP w4 (Y.K i).r (V.nd i).B false l false:=((hw.rp.kept (S:=fun _=>False) (Kept.of_below hw.b2) (fun x=>x)).kept k3 (nc _ (by omega))).kept k4 (n4 _ (by omega) (by omega) (by omega))
 have hrj:RJ w4 mm gn gs (Y.K i).r (dealL (V.nd i).B.data.toList) false:=(hw.rj.kept k3 (nn _ (by omega)) (nn _ (by omega)) (nn _ (by omega))).kept k4 (n4 _ (by omega) (by omega) (by omega)) (n4 _ (by omega) (by omega) (by omega)) (n4 _ (by omega) (by omega) (by omega))
 have hrs:RSt w4 t mm gb (i:Int) (fun _=>false):=(hw.rs.kept k3 (nn _ (by omega)) (nn _ (by omega))).kept k4 (n4 _ (by omega) (by omega) (by omega)) (n4 _ (by omega) (by omega) (by omega))
 have hlr:=k4.row (k3.row (k2.row hN.lrow (nr _ (by omega))) (nc _ (by omega))) (n4 _ (by omega) (by omega) (by omega))
 have hno:∀ d,(V.nd i).ld d=none:=fun d=>RN.dark hI hl d
 have hsz5:=hI.sz
 have hRN:RN w4 C4 (wakeK (Y.K i) t mm gn gs gb) i zs.length cap aw (wakeN (V.nd i)):=by
  refine ⟨?_,⟨false,l,false,hrp,.inr (.inl ⟨rfl,rfl,rfl⟩)⟩,fun _=>⟨⟨hrj,⟨false,l,false,hrp,.inr (.inl ⟨rfl,rfl,rfl⟩)⟩,by show (Y.K i).r≠mm; omega,by show (Y.K i).r≠gn; omega,by show (Y.K i).r≠gs; omega,by show (V.nd i).B.size≤1000; omega,by show 216≤(V.nd i).B.size; omega⟩,hrs⟩,?_,?_,fun d hd x hx=>?_,(hC4w _ lnd).trans e1,(hC4w _ lr).trans e2,(hC4w _ lls).trans e3,(hC4w _ ldn).trans e4,fun _=>⟨(hC4 _ hlt.1).trans p1,(hC4 _ hlt.2.1).trans p2,(hC4 _ hlt.2.2.1).trans p3,(hC4 _ hlt.2.2.2.1).trans p4,(hC4 _ hlt.2.2.2.2).trans p5⟩,fun d hd x hx=>?_⟩
  ·show w4.heap[(Y.K i).nd]? = _
   rw [hrow4]; rfl
  ·show w4.heap[(Y.K i).ls]? = _
   rw [hlr]
   have q:∀ d,rldV (wakeK (Y.K i) t mm gn gs gb) (wakeN (V.nd i)) d=rldV (Y.K i) (V.nd i) d:=fun d=>by
    rw [rldV_none (hno d),rldV_none (show (wakeN (V.nd i)).ld d=none from hno d)]
   simp only [q]
  ·have:=nt.drow
   unfold VR at this ⊢
   have g:∀ d,d<6→noteG (fun d=>finB (stN (V.nd i) d).ph) (fun d=>(dealL (V.nd i).B.data.toList d).2.ph) 6 d=finB (stN (wakeN (V.nd i)) d).ph:=fun d hd=>noteG_six hd (fun q=>q)
   show w4.heap[(wakeK (Y.K i) t mm gn gs gb).dn]? = _
   rw [this]
   simp only [g 0 (by omega),g 1 (by omega),g 2 (by omega),g 3 (by omega),g 4 (by omega),g 5 (by omega)]
  ·have hx':(V.nd i).ld d=some x:=hx
   rw [hno d] at hx'; cases hx'
  ·have hx':(V.nd i).ld d=some x:=hx
   rw [hno d] at hx'; cases hx'
 have hX:XI zs { setNd V i (wakeN (V.nd i)) with evs:=V.evs } m':=h.inv.node ((hI.wake hl).mono hm) hm
 refine ⟨C4,_,h.both (N:=wakeN (V.nd i)) (ev:=v) (E:=V.evs) kS hi (fun x hx=>by omega) hC4w (fun x hx hc=>nt.lt x hc) nt.row nt.evs nt.ce hRN rfl hm hX,rkey_K rfl,kS.mono (fun x hx=>by show C x<2000; omega),hC4w⟩
end
section
variable {w0 w w1 w':World} {C C':Nat→Nat} {K:RB} {Y:YB} {aw:Option Addr} {i n cap m m':Nat} {zs:List Int} {N:PN} {V V':PX}
theorem rwake_any (s:Int) (c:Nat) (h:RW w0 w C Y aw cap zs V m) (hc:cWake zs.length V s=c) :
  Calls Tryz.prog 92 #[.pointer (some ⟨Y.xb,0,none⟩),.int .i64 s] w fun e w'=>e=.returned (.int .i64 (c:Int))∧ROut w0 w w' C Y aw cap zs (if c=0 then upX V s.toNat else V) (m+1):=by
 have H:=hid h
 obtain ⟨-,c1,-,-,-⟩:=h.cells
 have n7:=h.n7
 by_cases hs:0≤s∧s<zs.length
 ·obtain ⟨k,rfl⟩:=Int.eq_ofNat_of_zero_le hs.1
  have hk:k<zs.length:=by omega
  have cn:=h.ns k hk
  obtain ⟨d0,d1,-,-⟩:=(h.nds k hk).cells
  have HK:=hid hk
  have hcu:(if upN (V.nd k)=true then 8 else 0)=c:=by rw [← hc]; unfold cWake; rw [if_pos hs,Int.toNat_natCast]
  unfold rsV at d0
  obtain ⟨z,hz⟩:∃ z,Hid (zs.length=z):=⟨_,rfl⟩
  rw [hz.out] at c1 hk n7
  have hkz:¬ ((z:Int)≤(k:Int)):=by omega
  cases hu:upN (V.nd k) with
  | true =>
   rw [hu,if_pos rfl] at hcu d0
   subst hcu
   rw [if_neg (by decide)]
   clear h hs hc hu
   go_enter Tryz.func92,Tryz.ntmps92
   go_wp2_with fail
   go_ret
   exact ⟨rfl,H.out.out (Below.refl _ _) (Nat.le_succ _)⟩
  | false =>
   rw [hu,if_neg (by decide)] at hcu d0
   subst hcu
   have hl:(V.nd k).l=-2:=by unfold upN at hu; simpa using hu
   have HL:=hid hl
   obtain ⟨off,l',cuts,p1,p2⟩:=(h.nds k HK.out).pl
   have HOn:=hid (rpon_any (Y.K k).r (V.nd k).B off cuts l' w p1)
   have HSz:=hid (h.inv.nd k HK.out).sz
   have HCr:=hid (And.intro (h.nds k HK.out).cn (h.nds k HK.out).cr)
   have HRow:=hid (h.nds k HK.out).row
   clear h hs hc hu hl p1 p2
   go_enter Tryz.func92,Tryz.ntmps92
   go_wp2_with fail
   refine HOn.out.mono ?_
   rintro e w1 ⟨rfl,hp1,hk1⟩
   have hne:(Y.K k).nd≠(Y.K k).r:=fun e=>by have h1:=HCr.out.1; have h2:=HCr.out.2; rw [e] at h1; omega
   have d1':=keptC hk1 d1 hne
   have HNe:=hid hne
   have HK1:=hid hk1
   have HP1:=hid hp1
   have HNew:=hid (rsnew_rp (Y.K k).r (V.nd k).B false false l' (k:Int) w1 hp1 (by have:=HSz.out; omega) (by have:=HSz.out; omega))
   clear hp1 hk1 d1 d0 cn c1 hne
   go_wp2_with fail
   refine HNew.out.mono ?_
   rintro e w2 ⟨t,mm,gn,gs,gb,rfl,hrj,hrs,hb2,q1,q2,q3,q4,t1,t2,t3,t4,q5,g1,g2,g3⟩
   have HW:Hid (WkI w w1 w2 (Y.K k).r k (V.nd k).B l' t mm gn gs gb):=⟨HK1.out,HP1.out,hrj,hrs,hb2,⟨q5,q1,q2,q3,q4⟩,⟨t1,t2,t3,t4⟩,⟨g1,g2,g3⟩⟩
   have hr2:=(Kept.of_below (S:=fun _=>False) hb2).row (HK1.out.row HRow.out HNe.out) (fun x=>x)
   have e0:w2.cell? ⟨(Y.K k).nd,0,none⟩=some (rsV (Y.K k) (V.nd k)):=by rw [cell_of_row _ _ _ _ _ _ hr2]; rfl
   have f0:w2.frozen? ⟨(Y.K k).nd,0,none⟩=false:=frozen_of_row _ _ _ _ _ hr2
   obtain ⟨W3,HW3⟩:∃ W3,Hid (w2.setCell ⟨(Y.K k).nd,0,none⟩ (.pointer (some ⟨t,0,none⟩))=W3):=⟨_,rfl⟩
   have hW3:=HW3.out
   have HNt:Hid (Calls Tryz.prog 129 #[.pointer (some ⟨Y.xb,0,none⟩),.int .i64 (k:Int)] W3 fun e w'=>e=.returned (.tuple #[])∧NTo w0.heap.size W3 w' (paint5 C k t mm gn gs gb) Y (wakeK (Y.K k) t mm gn gs gb) aw cap zs.length k (noteG (fun d=>finB (stN (V.nd k) d).ph) (fun d=>(dealL (V.nd k).B.data.toList d).2.ph) 6) (dealL (V.nd k).B.data.toList) (noteL V.evs k (fun d=>finB (stN (V.nd k) d).ph) (fun d=>(dealL (V.nd k).B.data.toList d).2.ph) 6)):=by
    rw [← HW3.out]
    exact rnote_any (H.out.wakeNT HK.out HW.out) HK.out (by have a1:=H.out.bel.size; have a2:=HK1.out.size; have a3:=hb2.size; show w0.heap.size≤_; simp; omega)
   clear hrj hrs hb2 q1 q2 q3 q4 t1 t2 t3 t4 q5 g1 g2 g3 d1' hr2
   go_wp2_with fail
   refine HNt.out.mono ?_
   rintro e w4 ⟨rfl,hn4⟩
   have HN4:=hid hn4
   clear hn4
   go_wp2_with fail
   go_ret
   refine ⟨rfl,?_⟩
   have:=HN4.out
   rw [← HW3.out] at this
   exact H.out.wakeOut HK.out HL.out HW.out this (Nat.le_succ _)
 ·have e:c=2:=by rw [← hc]; unfold cWake; rw [if_neg hs]
  subst e
  rw [if_neg (by decide)]
  obtain ⟨z,hz⟩:∃ z,Hid (zs.length=z):=⟨_,rfl⟩
  rw [hz.out] at c1 hs
  by_cases s0:s<0
  ·clear h hs hc
   go_enter Tryz.func92,Tryz.ntmps92
   go_wp2_with fail
   go_ret
   exact ⟨rfl,H.out.out (Below.refl _ _) (Nat.le_succ _)⟩
  ·have sz:(z:Int)≤s:=by omega
   clear h hs hc
   go_enter Tryz.func92,Tryz.ntmps92
   go_wp2_with fail
   go_ret
   exact ⟨rfl,H.out.out (Below.refl _ _) (Nat.le_succ _)⟩
end
theorem rkey_nd {Y Y':YB} (h:rkey Y'=rkey Y) (e:Nat):(Y'.K e).nd=(Y.K e).nd:=congrFun (congrArg Prod.snd h) e
theorem mod_small {n r:Int} (h0:0≤r) (h1:r<n):r % n=r:=Int.emod_eq_of_lt h0 h1
theorem mod_over {n r:Int} (h0:n≤r) (h1:r<2 * n):r % n=r - n:=by
 have:r=(r - n)+n * 1:=by omega
 rw [this,Int.add_mul_emod_self_left,Int.emod_eq_of_lt (by omega) (by omega)]
 omega
def farI (n s:Nat) (a:Int):Int:=((s:Int)+n - a % n) % n
theorem farI_bd {n s:Nat} {a:Int} (hn:0<n):0≤farI n s a∧farI n s a<n:=by
 unfold farI
 exact ⟨Int.emod_nonneg _ (by omega),Int.emod_lt_of_pos _ (by omega)⟩
theorem farI_is {n s:Nat} {a j:Int} (hn:s<n) (h0:0≤j) (h1:j≤farI n s a):(a+j) % n=s ↔ j=farI n s a:=by
 have hp:(0:Int)<n:=by omega
 have r0:=Int.emod_nonneg a (show (n:Int)≠0 by omega)
 have r1:=Int.emod_lt_of_pos a hp
 obtain ⟨r,hr⟩:∃ r,a % n=r:=⟨_,rfl⟩
 have ea:(a+j) % n=(r+j) % n:=by
  have:a+j=(r+j)+n * (a / n):=by have:=Int.mul_ediv_add_emod a n; omega
  rw [this,Int.add_mul_emod_self_left]
 rw [ea]
 rw [hr] at r0 r1
 unfold farI at h1 ⊢
 rw [hr] at h1 ⊢
 by_cases g:r≤s
 ·rw [mod_over (n:=n) (r:=(s:Int)+n - r) (by omega) (by omega)] at h1 ⊢
  rw [mod_small (by omega) (by omega)]
  omega
 ·rw [mod_small (n:=n) (r:=(s:Int)+n - r) (by omega) (by omega)] at h1 ⊢
  by_cases k:r+j<n
  ·rw [mod_small (by omega) k]; omega
  ·rw [mod_over (by omega) (by omega)]; omega
theorem attemptX_far (n s:Nat) (a:Int):attemptX n s a=a+1+farI n s (a+1):=rfl
theorem rem_is {a n:Int} (h0:0≤a):a.tmod n=a % n:=Int.tmod_eq_emod_of_nonneg h0
section
variable {w0 w w1 w':World} {C C':Nat→Nat} {K:RB} {Y:YB} {aw:Option Addr} {i n cap m m':Nat} {zs:List Int} {N:PN} {V V':PX}
theorem RN.way (h:RN w C K i n cap aw N) (hu:upN N=true) {d:Nat} (hd:d<6) {h1 h2 h3:Nat} (hs:stN N d=⟨h1,h2,h3⟩):w.cell? ⟨K.nd,0,none⟩=some (.pointer (some ⟨K.t,0,none⟩))∧w.cell? ⟨K.t,1,none⟩=some (.pointer (some ⟨K.m,0,none⟩))∧(∃ cs,w.cell? ⟨K.m,2,none⟩=some (.slice (some ⟨K.gs,0,none⟩) 6 cs))∧w.cell? ⟨K.gs,d * 3,none⟩=some (.int .i64 (h1:Int))∧w.cell? ⟨K.gs,d * 3+1,none⟩=some (.int .i64 (h2:Int))∧w.cell? ⟨K.gs,d * 3+2,none⟩=some (.int .i64 (h3:Int)):=by
 obtain ⟨d0,-,-,-⟩:=h.cells
 unfold rsV at d0
 rw [hu,if_pos rfl] at d0
 obtain ⟨u1,u2⟩:=h.up hu
 obtain ⟨cn,cs,-,-,j2,-⟩:=u1.cells
 obtain ⟨s1,s2,s3,-⟩:=u1.st hd
 have e:(dlN N d).2=⟨h1,h2,h3⟩:=hs
 rw [e] at s1 s2 s3
 exact ⟨d0,u2.cells.2.1,⟨cs,j2⟩,s1,s2,s3⟩
end
end Go.Proofs.YtadhpkopkkjmfaaGreatDoor
