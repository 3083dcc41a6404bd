/-
  On the way to SAnewProof: VY YD YF GP.
-/
import Derived.Test.YtaehdgemkafinaaGreatDoorBv36
import Derived.Test.YtaehdgemkafinaaGreatDoorBv34
import Derived.Test.YtaehdgemkafinaaGreatDoorBv35
import Derived.Deep.CutBlock
set_option maxHeartbeats 8000000
set_option maxRecDepth 100000
namespace Go.Proofs.YtaehdgemkafinaaGreatDoor
open Go.RowKit
section
variable {w0 w w':World} {C C':Nat→Nat} {K:NB} {X:XB} {i m m':Nat} {zs:List Int} {N:PN} {V V':PX} {A:Nat→Addr}
theorem elect_ans {n s d:Nat} {a:Int} (hN:NI n N m) (hu:N.l≠-2) (hF:FI n (electF s d a)) (hm:m<4000000000) :
  (upN (hearN N (electF s d a))=false∧ansN s N (electF s d a)=[]) ∨ (upN (hearN N (electF s d a))=true∧∃ f0,ansN s N (electF s d a)=[f0]):=by
 have hh:=hearN_hf hN hu hF hm
 have hk:(gHN N (electF s d a)).k=4:=by
  unfold gHN hearL
  rw [if_neg (by show ¬ ((3:Int).toNat=1); decide),if_pos (by show (3:Int).toNat=3; decide)]
  split <;> rfl
 rcases hh.c with hc|hc
 ·right
  refine ⟨by rw [hh.up,hc]; rfl,?_⟩
  unfold ansN
  rw [if_pos ⟨hc,by rw [hk]; decide⟩]
  exact ⟨_,rfl⟩
 ·left
  refine ⟨by rw [hh.up,hc]; rfl,?_⟩
  unfold ansN
  rw [if_neg (fun h=>by rw [hc] at h; cases h.1)]
theorem WOut.mono (h:WOut w0 w w' C X zs V m) (hm:m≤m'):WOut w0 w w' C X zs V m':=by
 obtain ⟨C',X',x1,x2,x3,x4⟩:=h
 exact ⟨C',X',x1.mono hm,x2,x3,x4⟩
theorem try_any (s d p:Nat) (h:WD w0 w C X zs V m) (hE:Held9 w0 A) (hs:s<zs.length) (hd:d<6) (hu:(V.nd s).l≠-2) (hm:m<1000000) (hp:(stN (V.nd s) d).pr=p) :
  Calls Tryz.prog 111 #[.pointer (some ⟨X.xb,0,none⟩),.int .i64 (s:Int),.int .i64 (d:Int),.int .i64 (p:Int)] w fun e w'=>e=.returned (.tuple #[])∧WOut w0 w w' C X zs (tryX zs V s d (attemptX zs.length s (aboveN (V.nd s) d))) (m+7):=by
 have hbd:=aboveN_bd (h.inv.nd s hs) hd
 have hat:=attemptX_bd zs.length s (aboveN (V.nd s) d) (by omega)
 by_cases hf:1048576<attemptX zs.length s (aboveN (V.nd s) d)
 ·refine (try_far s d p h hE hs hd hp hf).mono ?_
  rintro e w' ⟨h1,h2⟩
  refine ⟨h1,?_⟩
  unfold tryX
  rw [if_pos hf]
  exact h.out h2 (by omega)
 ·obtain ⟨an,ha⟩:=Int.eq_ofNat_of_zero_le (show 0≤attemptX zs.length s (aboveN (V.nd s) d) by omega)
  have hF:=electF_fi (a:=(an:Int)) hs h.n7.2 hd (by omega)
  rcases elect_ans (h.inv.nd s hs) hu hF (by omega) with ⟨u,e⟩|⟨u,f0,e⟩
  ·refine (try_down s d p an h hE hs hd hu hm hp ha (by omega) (by omega) u e).mono ?_
   rintro e w' ⟨h1,h2⟩
   refine ⟨h1,?_⟩
   rw [ha]
   unfold tryX
   rw [if_neg (by omega),if_pos u]
   exact h2.mono (by omega)
  ·have hf0:FI zs.length f0:=ansN_fi (h.inv.nd s hs) hu hF (by omega) rfl f0 (by rw [e]; exact List.mem_singleton.2 rfl)
   refine (try_up s d p an f0 h hE hs hd hu hm hp ha (by omega) (by omega) u e hf0).mono ?_
   rintro e w' ⟨h1,h2⟩
   refine ⟨h1,?_⟩
   rw [ha]
   exact h2.mono (by omega)
theorem tickX_step (s:Nat) {q:Nat} (hq:q<6):tickX zs s (6 - q) q V=if upN ((tickD zs V s q).nd s)=true then tickX zs s (6 - (q+1)) (q+1) (tickD zs V s q) else tickD zs V s q:=by
 rw [show 6 - q=(6 - (q+1))+1 by omega]
 rfl
theorem st_is0 (h1 h2 h3:Nat) (b:Bool) (hb:decide (h1=0∧h2=0∧h3=0)=b) (w:World):(binOp .eql 80 (.agg #[.int .i64 (h1:Int),.int .i64 (h2:Int),.int .i64 (h3:Int)]) (.agg #[.int .i64 0,.int .i64 0,.int .i64 0])).run Tryz.prog w=.ok (.bool b) w :=
 st_eql _ _ _ _ _ _ b (by rw [← hb]; congr 1; exact propext (by omega)) w
theorem tick_ok (s:Nat) (h:WD w0 w C X zs V m) (hE:Held9 w0 A) (hs:s<zs.length) (hu:(V.nd s).l≠-2) (hm:m<900000) :
  Calls Tryz.prog 43 #[.pointer (some ⟨X.xb,0,none⟩),.int .i64 (s:Int)] w fun e w'=>e=.returned .nilIface∧WOut w0 w w' C X zs (tickX zs s 6 0 V) (m+42):=by
 have H:=hid h
 have HE:=hid hE
 have HE1:=hid (h.held hE)
 have HS:=hid hs
 have HU:Hid (((V.nd s).l != -2)=true):=by show ((V.nd s).l != -2)=true; simpa using hu
 obtain ⟨T,HT⟩:∃ T,Hid (tickX zs s 6 0 V=T):=⟨_,rfl⟩
 rw [HT.out]
 clear h hE hs hu
 go_enter Tryz.func43,Tryz.ntmps43
 go_wp2_with fail
 refine (find_ok s H.out HS.out).mono ?_
 rintro e w1 ⟨rfl,hx⟩
 subst w1
 go_wp2_with fail
 refine (powered_is true (H.out.nds s HS.out) HE1.out HU.out).mono ?_
 rintro e w1 ⟨rfl,hb⟩
 simp only [if_true]
 have HB1:=hid hb
 have H1:=hid (H.out.later hb)
 clear hb
 go_wp2_with fail
 go_loopw [21] (fun v wr=>∃ (q:Nat) (Vq:PX),q≤6∧v=.int .i64 (q:Int)∧Hid (tickX zs s (6 - q) q Vq=T)∧Hid ((Vq.nd s).l≠-2)∧WOut w0 w wr C X zs Vq (m+7 * q)) (fun v _=>6 - (intOf v).toNat)
 case atStart=>exact ⟨0,V,Nat.zero_le _,rfl,HT.out,by have:=HU.out; show (V.nd s).l≠-2; simpa using this,H.out.out HB1.out (by omega)⟩
 case round =>
  obtain ⟨q,Vq,hq,rfl,HTq,HUq,C1,X1,g1,g2,g3,g4⟩:=hrel
  have HG:=hid (And.intro g1 (And.intro g2 (And.intro g3 g4)))
  have c0:=(g1.nds s HS.out).site
  rw [key_nd g2] at c0
  obtain ⟨⟨h1,h2,h3⟩,HST⟩:∃ x,Hid (stN (Vq.nd s) q=x):=⟨_,rfl⟩
  clear g1 g2 g3 g4
  by_cases hlt:q<6
  ·have HKn:=hid (known_ag q h1 h2 h3 (HG.out.1.nds s HS.out).sp.jp.jr (HG.out.1.nds s HS.out).sp.sr hlt HST.out)
   go_wp2_with fail
   refine HKn.out.mono ?_
   rintro e w2 ⟨rfl,hb2⟩
   obtain ⟨W3,HW3⟩:∃ W3,Hid (w2.alloc (.cells #[.int .i64 (h1:Int),.int .i64 (h2:Int),.int .i64 (h3:Int)] 80)=W3):=⟨_,rfl⟩
   have hW3:=HW3.out
   have HB3:Hid (Below wr.heap.size wr W3):=by rw [← HW3.out]; exact hb2.alloc hb2.size _
   have HR3:Hid (W3.heap[w2.heap.size]? = some (.cells #[.int .i64 (h1:Int),.int .i64 (h2:Int),.int .i64 (h3:Int)] 80 (0,0))):=by rw [← HW3.out]; exact heap_alloc_new w2 _
   have a0:W3.cell? ⟨w2.heap.size,0,none⟩=some (.int .i64 (h1:Int)):=by rw [cell_of_row _ _ _ _ _ _ HR3.out]; rfl
   have a1:W3.cell? ⟨w2.heap.size,1,none⟩=some (.int .i64 (h2:Int)):=by rw [cell_of_row _ _ _ _ _ _ HR3.out]; rfl
   have a2:W3.cell? ⟨w2.heap.size,2,none⟩=some (.int .i64 (h3:Int)):=by rw [cell_of_row _ _ _ _ _ _ HR3.out]; rfl
   have H3:=hid (HG.out.1.later HB3.out)
   have HO3:Hid (WOut w0 w W3 C X zs Vq (m+7 * q)):=⟨C1,X1,H3.out,HG.out.2.1,HG.out.2.2.1.trans (Kept.of_below HB3.out),HG.out.2.2.2⟩
   have HGd:Hid (h1≤5∧h2≤1048576):=by have:=(HG.out.1.inv.nd s HS.out).gd q hlt; have h4:(dlN (Vq.nd s) q).2=⟨h1,h2,h3⟩:=HST.out; rw [h4] at this; exact ⟨this.1,this.2.1⟩
   clear hb2
   by_cases hz:h1=0∧h2=0∧h3=0
   ·obtain ⟨z1,z2,z3⟩:=hz
    have hcmp:∀ w,(binOp .eql 80 (.agg #[.int .i64 (h1:Int),.int .i64 (h2:Int),.int .i64 (h3:Int)]) (.agg #[.int .i64 0,.int .i64 0,.int .i64 0])).run Tryz.prog w=.ok (.bool true) w:=st_is0 h1 h2 h3 true (decide_eq_true ⟨z1,z2,z3⟩)
    obtain ⟨V4,HV⟩:∃ V4,Hid (Vq=V4):=⟨_,rfl⟩
    have HV4:Hid (tickD zs Vq s q=V4):=by
     rw [← HV.out]
     unfold tickD
     exact if_pos (by rw [HST.out,z1,z2,z3]; rfl)
    have HUp4:Hid (upN (V4.nd s)=true):=by rw [← HV.out]; have:=HUq.out; show upN (Vq.nd s)=true; unfold upN; simpa using this
    have HO:Hid (WOut w0 w W3 C X zs V4 (m+7 * q+7)):=by rw [← HV.out]; exact HO3.out.mono (by omega)
    clear z1 z2 z3
    obtain ⟨C4,X4,y1,y2,y3,y4⟩:=HO.out
    obtain ⟨e0,e1,e2⟩:=(y1.nds s HS.out).way
    rw [key_nd y2] at e0
    have HP4:=hid (y1.nds s HS.out).sp.jp.pl
    have HT4:Hid (tickX zs s (6 - (q+1)) (q+1) V4=T):=by have:=HTq.out; rw [tickX_step s hlt,HV4.out,if_pos HUp4.out] at this; exact this
    clear y1 y2 y3 y4
    go_wp2_with fail
    refine (power_b _ _ _ _ true W3 HP4.out HUp4.out).mono ?_
    rintro e w5 ⟨rfl,hx⟩
    subst w5
    go_wp2_with fail
    go_roundw
    case rel=>exact ⟨q+1,V4,by omega,by go_num,HT4.out,(by have:=HUp4.out; show (V4.nd s).l≠-2; unfold upN at this; simpa using this),HO.out.mono (by omega)⟩
    case measure=>simp [intOf]; omega
   ·have hcmp:∀ w,(binOp .eql 80 (.agg #[.int .i64 (h1:Int),.int .i64 (h2:Int),.int .i64 (h3:Int)]) (.agg #[.int .i64 0,.int .i64 0,.int .i64 0])).run Tryz.prog w=.ok (.bool false) w:=st_is0 h1 h2 h3 false (decide_eq_false hz)
    have HNz:Hid (¬ stN (Vq.nd s) q=St.zero):=fun e=>hz (by rw [HST.out] at e; exact ⟨congrArg St.ph e,congrArg St.pr e,congrArg St.at_ e⟩)
    obtain ⟨fb,HF⟩:∃ fb,Hid (finB h1=fb):=⟨_,rfl⟩
    clear hz
    cases fb with
    | true =>
     obtain ⟨V4,HV⟩:∃ V4,Hid (sendX Vq (toL s q 7 h2 h1 zs.length)=V4):=⟨_,rfl⟩
     have HV4:Hid (tickD zs Vq s q=V4):=by
      rw [← HV.out]
      unfold tickD
      rw [if_neg HNz.out,HST.out,if_pos HF.out]
      exact rfl
     have HUp4:Hid (upN (V4.nd s)=true):=by rw [← HV.out]; have:=HUq.out; show upN (Vq.nd s)=true; unfold upN; simpa using this
     have HTe:=hid (tellEnd_any s q h1 h2 h3 H3.out HS.out hlt HGd.out.1 HGd.out.2 (by omega))
     rw [key_xb HG.out.2.1,HV.out] at HTe
     go_wp2_with (go_at_call 109; refine (wisEnd_is h1 true _ HF.out).mono ?_; rintro e w9 ⟨rfl,hx⟩; subst w9)
     refine HTe.out.mono ?_
     rintro e w4 ⟨rfl,ho4⟩
     have HO:Hid (WOut w0 w w4 C X zs V4 (m+7 * q+7)):=WOut.step (C1:=C1) (X1:=X1) HG.out.2.1 (HG.out.2.2.1.trans (Kept.of_below HB3.out)) HG.out.2.2.2 ho4
     clear ho4
     obtain ⟨C4,X4,y1,y2,y3,y4⟩:=HO.out
     obtain ⟨e0,e1,e2⟩:=(y1.nds s HS.out).way
     rw [key_nd y2] at e0
     have HP4:=hid (y1.nds s HS.out).sp.jp.pl
     have HT4:Hid (tickX zs s (6 - (q+1)) (q+1) V4=T):=by have:=HTq.out; rw [tickX_step s hlt,HV4.out,if_pos HUp4.out] at this; exact this
     clear y1 y2 y3 y4
     go_wp2_with fail
     refine (power_b _ _ _ _ true w4 HP4.out HUp4.out).mono ?_
     rintro e w5 ⟨rfl,hx⟩
     subst w5
     go_wp2_with fail
     go_roundw
     case rel=>exact ⟨q+1,V4,by omega,by go_num,HT4.out,(by have:=HUp4.out; show (V4.nd s).l≠-2; unfold upN at this; simpa using this),HO.out.mono (by omega)⟩
     case measure=>simp [intOf]; omega
    | false =>
     obtain ⟨V4,HV⟩:∃ V4,Hid (tryX zs Vq s q (attemptX zs.length s (aboveN (Vq.nd s) q))=V4):=⟨_,rfl⟩
     have HV4:Hid (tickD zs Vq s q=V4):=by
      rw [← HV.out]
      unfold tickD
      rw [if_neg HNz.out,HST.out,if_neg (by rw [HF.out]; decide)]
      exact rfl
     have HTr:=hid (try_any s q h2 H3.out HE.out HS.out hlt HUq.out (by omega) (by rw [HST.out]))
     rw [key_xb HG.out.2.1,HV.out] at HTr
     go_wp2_with (go_at_call 109; refine (wisEnd_is h1 false _ HF.out).mono ?_; rintro e w9 ⟨rfl,hx⟩; subst w9)
     refine HTr.out.mono ?_
     rintro e w4 ⟨rfl,ho4⟩
     have HO:Hid (WOut w0 w w4 C X zs V4 (m+7 * q+7)):=WOut.step (C1:=C1) (X1:=X1) HG.out.2.1 (HG.out.2.2.1.trans (Kept.of_below HB3.out)) HG.out.2.2.2 ho4
     clear ho4
     obtain ⟨u,HUp4⟩:∃ u,Hid (upN (V4.nd s)=u):=⟨_,rfl⟩
     cases u with
     | true =>
      obtain ⟨C4,X4,y1,y2,y3,y4⟩:=HO.out
      obtain ⟨e0,e1,e2⟩:=(y1.nds s HS.out).way
      rw [key_nd y2] at e0
      have HP4:=hid (y1.nds s HS.out).sp.jp.pl
      have HT4:Hid (tickX zs s (6 - (q+1)) (q+1) V4=T):=by have:=HTq.out; rw [tickX_step s hlt,HV4.out,if_pos HUp4.out] at this; exact this
      clear y1 y2 y3 y4
      go_wp2_with fail
      refine (power_b _ _ _ _ true w4 HP4.out HUp4.out).mono ?_
      rintro e w5 ⟨rfl,hx⟩
      subst w5
      go_wp2_with fail
      go_roundw
      case rel=>exact ⟨q+1,V4,by omega,by go_num,HT4.out,(by have:=HUp4.out; show (V4.nd s).l≠-2; unfold upN at this; simpa using this),HO.out.mono (by omega)⟩
      case measure=>simp [intOf]; omega
     | false =>
      obtain ⟨C4,X4,y1,y2,y3,y4⟩:=HO.out
      obtain ⟨e0,e1,e2⟩:=(y1.nds s HS.out).way
      rw [key_nd y2] at e0
      have HP4:=hid (y1.nds s HS.out).sp.jp.pl
      have HT4:Hid (V4=T):=by have:=HTq.out; rw [tickX_step s hlt,HV4.out,if_neg (by rw [HUp4.out]; decide)] at this; exact this
      clear y1 y2 y3 y4
      go_wp2_with fail
      refine (power_b _ _ _ _ false w4 HP4.out HUp4.out).mono ?_
      rintro e w5 ⟨rfl,hx⟩
      subst w5
      go_wp2_with fail
      go_ret
      refine ⟨rfl,?_⟩
      rw [← HT4.out]
      exact HO.out.mono (by omega)
  ·obtain rfl:q=6:=by omega
   go_wp2_with fail
   go_ret
   refine ⟨rfl,?_⟩
   rw [← HTq.out]
   exact ⟨C1,X1,HG.out.1,HG.out.2.1,HG.out.2.2.1,HG.out.2.2.2⟩
theorem tick_any (s:Int) (c:Nat) (h:WD w0 w C X zs V m) (hE:Held9 w0 A) (hm:m<900000) (hc:cUp zs.length V s=c) :
  Calls Tryz.prog 43 #[.pointer (some ⟨X.xb,0,none⟩),.int .i64 s] w fun e w'=>e=.returned (ev A c)∧WOut w0 w w' C X zs (if c=0 then tickX zs s.toNat 6 0 V else V) (m+42):=by
 have H:=hid h
 have HE:=hid hE
 have HE1:=hid (h.held hE)
 clear h hE
 subst hc
 by_cases hs:0≤s∧s<zs.length
 ·obtain ⟨k,rfl⟩:=Int.eq_ofNat_of_zero_le hs.1
  have hk:k<zs.length:=by omega
  have HK:=hid hk
  obtain ⟨b,HB⟩:∃ b,Hid (((V.nd k).l != -2)=b):=⟨_,rfl⟩
  have HU:Hid (upN (V.nd k)=b):=HB.out
  cases b with
  | true =>
   have e:cUp zs.length V k=0:=by unfold cUp; rw [if_pos hs,Int.toNat_natCast,HU.out,if_pos rfl]
   rw [e,if_pos rfl,Int.toNat_natCast]
   exact tick_ok k H.out HE.out hk (by have:=HB.out; simpa using this) hm
  | false =>
   have e:cUp zs.length V k=6:=by unfold cUp; rw [if_pos hs,Int.toNat_natCast,HU.out,if_neg (by decide)]
   rw [e]
   clear e hs hk
   go_enter Tryz.func43,Tryz.ntmps43
   go_wp2_with fail
   refine (find_ok k H.out HK.out).mono ?_
   rintro e w1 ⟨rfl,hx⟩
   subst w1
   go_wp2_with fail
   refine (powered_is false (H.out.nds k HK.out) HE1.out HB.out).mono ?_
   rintro e w1 ⟨rfl,hb⟩
   rw [if_neg (by decide),if_neg (by decide)]
   have HB1:=hid hb
   clear hb
   go_wp2_with fail
   go_ret
   exact ⟨rfl,H.out.out HB1.out (by omega)⟩
 ·have e:cUp zs.length V s=2:=by unfold cUp; rw [if_neg hs]
  rw [e]
  have HS:=hid hs
  clear e hs
  go_enter Tryz.func43,Tryz.ntmps43
  go_wp2_with fail
  refine (find_no s H.out HE.out HS.out).mono ?_
  rintro e w1 ⟨rfl,hb⟩
  have HB1:=hid hb
  clear hb
  go_wp2_with fail
  refine (powered_err _ _).mono ?_
  rintro e w2 ⟨rfl,hx⟩
  subst w2
  go_wp2_with fail
  go_ret
  exact ⟨rfl,H.out.out HB1.out (by omega)⟩
end
section
variable {zs:List Int} {V V':PX} {m:Nat} {g g':Gh}
theorem XI.hear {i:Nat} {f:F9} (hX:XI zs V m) (hu:(V.nd i).l≠-2) (hF:FI zs.length f) (hm:m<4000000000) (hi:i<zs.length):XI zs (hearX V i f) (m+1):=by
 have hh:=hearN_hf (hX.nd i hi) hu hF hm
 refine ⟨hX.he,fun k hk=>?_,hX.fr,by have h1:V.fly.length≤1000 * m:=hX.fl; show V.fly.length≤1000 * (m+1); omega,?_⟩
 ·show NI zs.length ((setNd V i (hearN (V.nd i) f)).nd k) (m+1)
  by_cases e:k=i
  ·subst e; rw [nd_at]; exact hh.ni
  ·rw [nd_ne _ _ _ e]; exact (hX.nd k hk).mono (Nat.le_succ _)
 ·show (noteE V.evs i f.d.toNat (stN (V.nd i) f.d.toNat).ph (stN (hearN (V.nd i) f) f.d.toNat).ph).length≤500
  have:=hX.ev
  unfold noteE
  split
  ·rename_i hc
   rw [List.length_append,List.length_singleton]
   have:=hc.2.2
   omega
  ·exact this
theorem leadX_some {i d:Nat} {f:F9} {x:Int×PL} (hx:(V.nd i).ld d=some x):leadX zs V i d f=setNd V i (setLd (V.nd i) d (x.1,(phear zs i d x.1 x.2 f).1))∧leadO zs V i d f=outL i d x.1 zs.length (phear zs i d x.1 x.2 f).2:=by
 unfold leadX leadO
 rw [hx]
 exact ⟨rfl,rfl⟩
theorem leadX_none {i d:Nat} {f:F9} (hx:(V.nd i).ld d=none):leadX zs V i d f=V∧leadO zs V i d f=[]:=by
 unfold leadX leadO
 rw [hx]
 exact ⟨rfl,rfl⟩
theorem XI.lead {i d:Nat} {f:F9} (hX:XI zs V m) (hF:FI zs.length f) (hi:i<zs.length) (hd:d<6):XI zs (sendX (leadX zs V i d f) (leadO zs V i d f)) (m+1):=by
 have n7:=(errW_zero hX.he).2.1
 cases hx:(V.nd i).ld d with
 | none =>
  rw [(leadX_none hx).1,(leadX_none hx).2,sendX_nil]
  exact hX.mono (Nat.le_succ _)
 | some x =>
  rw [(leadX_some hx).1,(leadX_some hx).2]
  obtain ⟨h1,h2,h3,h4,h5⟩:=(hX.nd i hi).ld d x hx
  have hp:=hF.ok.2.2.2.2.2.2.1
  refine XI.send (hX.node ((hX.nd i hi).leadHear hx (phear_st h3) (phear_seen h4.1 h4.2 (by omega) (by omega)) (h5.hear n7)) (Nat.le_refl _)) (outL_fi hi n7 hd h2) ?_
  have:=outL_le i d x.1 zs.length (phear zs i d x.1 x.2 f).2
  omega
theorem AX.take (h:AX zs V) (k:Nat):AX zs (takeX V k):=h.quiet (fun _ _=>rfl) (fun _ _ _ _ x=>x) (fun _ hf=>List.mem_of_mem_eraseIdx hf) rfl
theorem AX.deliver {k:Nat} {f:F9} (h:AX zs V) (hX:XI zs V m) (hm:m<4000000000) (hf:f∈V.fly):AX zs (deliverX zs V k f)∧Mo zs V (deliverX zs V k f):=by
 have hF:=hX.fr f hf
 have h1:=h.take k
 have hX1:XI zs (takeX V k) m:=hX.take
 have hmo:Mo zs V (takeX V k):=Mo.same hX fun _ _=>rfl
 have ht:f.t.toNat<zs.length:=by have:=hF.t0; have:=hF.t1; omega
 have hd6:0≤f.d∧f.d≤5:=hF.ok.2.2.1
 unfold deliverX
 split
 ·rename_i hr
  have hu:((takeX V k).nd f.t.toNat).l≠-2:=by
   show (V.nd f.t.toNat).l≠-2
   unfold reachB at hr
   rw [Bool.and_eq_true] at hr
   have:=hr.1
   unfold upN at this
   simpa using this
  have hfr:∀ d g,GX zs V d g→f.d=(d:Int)→Fr zs (stD (takeX V k) d) g f:=fun d g hg hd=>hg.fr f hf hd
  have hfr2:∀ d,d<6→∃ g,GX zs (takeX V k) d g∧(f.d=(d:Int)→Fr zs (stD (takeX V k) d) g f):=fun d hd=>by
   obtain ⟨g,hg⟩:=h.gx d hd
   exact ⟨g,hg.quiet (fun _=>rfl) (fun _ _ _ x=>x) (fun _ x=>List.mem_of_mem_eraseIdx x),fun e=>hg.fr f hf e⟩
  unfold arriveX arriveO
  split
  · -- a lead hears it
   cases hx:((takeX V k).nd f.t.toNat).ld f.d.toNat with
   | none =>
    rw [(leadX_none hx).1,(leadX_none hx).2,sendX_nil]
    exact ⟨h1,hmo⟩
   | some x =>
    rw [(leadX_some hx).1,(leadX_some hx).2]
    generalize hN:(takeX V k)=V1 at *
    have hst:∀ j e,stN ((sendX (setNd V1 f.t.toNat (setLd (V1.nd f.t.toNat) f.d.toNat (x.1,(phear zs f.t.toNat f.d.toNat x.1 x.2 f).1))) (outL f.t.toNat f.d.toNat x.1 zs.length (phear zs f.t.toNat f.d.toNat x.1 x.2 f).2)).nd j) e=stN (V1.nd j) e:=fun j e=>setLd_st V1 f.t.toNat f.d.toNat _ j e
    refine ⟨⟨fun e he=>?_,h1.ex.same hst rfl⟩,hmo.trans (Mo.same hX1 hst)⟩
    obtain ⟨g,hg,hgf⟩:=hfr2 e he
    by_cases c:e=f.d.toNat
    ·have ce:f.d=(e:Int):=by omega
     obtain ⟨-,-,-,-,hpw⟩:=(hX1.nd _ ht).ld _ x hx
     rw [← c] at hx ⊢
     obtain ⟨g',k1,k2⟩:=lead_gx hg hX.he hx hpw ht hX1.fr (hgf ce)
     exact ⟨g',k1.send fun o ho _=>k2 o ho⟩
    ·refine ⟨g,(hg.other c).send fun o ho hoe=>?_⟩
     exfalso
     cases hy:(phear zs f.t.toNat f.d.toNat x.1 x.2 f).2 with
     | none=>rw [hy] at ho; cases ho
     | some y =>
      rw [hy] at ho
      have:=(toL_mem ho).2.2.2.2.2
      omega
  · -- the site hears it
   have he:=hear_ex (f:=f) h1.ex (hX1.nd _ ht) hu hF hm ht hX1
   refine ⟨⟨fun d hd=>?_,he.1.same (fun _ _=>rfl) rfl⟩,hmo.trans he.2⟩
   obtain ⟨g,hg,hgf⟩:=hfr2 d hd
   obtain ⟨g',k1,-,-,k4⟩:=hear_gx hg (hX1.nd _ ht) hu hF hm ht hX1.fr hgf
   exact ⟨g',k1.send k4⟩
 ·exact ⟨h1,hmo⟩
theorem fr_plain {s:Nat→St} {f:F9} (hk:f.k=1 ∨ f.k=3):Fr zs s g f :=
 ⟨fun e=>by omega,fun e=>by omega,fun e=>by omega,fun e=>by omega,fun e=>by omega,fun e=>by omega,fun e=>by omega⟩
theorem AX.begin {s d:Nat} (h:AX zs V) (hX:XI zs V m):AX zs (beginX zs V s d)∧Mo zs V (beginX zs V s d):=by
 have hst:∀ k e,stN ((beginX zs V s d).nd k) e=stN (V.nd k) e:=fun k e=>setLd_st V s d _ k e
 refine ⟨⟨fun e he=>?_,h.ex.same hst rfl⟩,Mo.same hX hst⟩
 obtain ⟨g,hg⟩:=h.gx e he
 refine ⟨g,GX.send ?_ fun f hf _=>fr_plain (.inl (toL_mem hf).1)⟩
 by_cases c:e=d
 ·subst c; exact hg.newLead (le_new0 _ _ _)
 ·exact hg.other c
theorem attempt_mod {n s:Nat} (hn:1≤n∧n≤7) (hs:s<n) {a:Int} (ha:0≤a):(attemptX n s a).toNat % n=s:=by
 have h7:n=1 ∨ n=2 ∨ n=3 ∨ n=4 ∨ n=5 ∨ n=6 ∨ n=7:=by omega
 unfold attemptX
 rcases h7 with rfl|rfl|rfl|rfl|rfl|rfl|rfl <;> omega
theorem XI.try {s d:Nat} (hX:XI zs V m) (hs:s<zs.length) (hd:d<6) (hu:(V.nd s).l≠-2) (hm:m<1000000):XI zs (tryX zs V s d (attemptX zs.length s (aboveN (V.nd s) d))) (m+7):=by
 have n7:=(errW_zero hX.he).2.1
 have hbd:=aboveN_bd (hX.nd s hs) hd
 have hat:=attemptX_bd zs.length s (aboveN (V.nd s) d) (by omega)
 generalize attemptX zs.length s (aboveN (V.nd s) d)=a at hat
 by_cases hf:1048576<a
 ·unfold tryX
  rw [if_pos hf]
  exact hX.mono (by omega)
 ·have hF:=electF_fi (a:=a) hs n7 hd (by omega)
  have hh:=hX.hear hu hF (by omega) hs
  rcases elect_ans (hX.nd s hs) hu hF (by omega) with ⟨u,-⟩|⟨u,f0,e⟩
  ·unfold tryX
   rw [if_neg hf,if_pos u]
   exact hh.mono (by omega)
  ·have hf0:FI zs.length f0:=ansN_fi (hX.nd s hs) hu hF (by omega) rfl f0 (by rw [e]; exact List.mem_singleton.2 rfl)
   rw [← try_eq s d a f0 e hf u]
   have hu2:((hearX V s (electF s d a)).nd s).l≠-2:=by
    rw [hearX_nd]
    unfold upN at u
    simpa using u
   have h2:=hh.node (i:=s) ((hh.nd s hs).putLead (d:=d) (a:=a) (P:=P0) hu2 (by omega) (by decide) (by decide) (P0_w _)) (Nat.le_refl _)
   have h3:=XI.send h2 (electL_fi (a:=a) hs n7 hd (by omega)).1 (electL_fi (a:=a) hs n7 hd (by omega)).2
   exact (h3.lead hf0 hs hd).mono (by omega)
theorem AX.try {s d:Nat} (h:AX zs V) (hX:XI zs V m) (hs:s<zs.length) (hd:d<6) (hu:(V.nd s).l≠-2) (hm:m<1000000) :
  AX zs (tryX zs V s d (attemptX zs.length s (aboveN (V.nd s) d)))∧Mo zs V (tryX zs V s d (attemptX zs.length s (aboveN (V.nd s) d))):=by
 have n7:=errW_zero hX.he
 have hbd:=aboveN_bd (hX.nd s hs) hd
 have hat:=attemptX_bd zs.length s (aboveN (V.nd s) d) (by omega)
 have hmod:=attempt_mod (n:=zs.length) ⟨by omega,n7.2.1⟩ hs hbd.1
 have hpr:((stN (V.nd s) d).pr:Int)≤aboveN (V.nd s) d:=by
  unfold aboveN
  split
  ·exact Int.le_refl _
  ·exact Int.le_max_left _ _
 generalize attemptX zs.length s (aboveN (V.nd s) d)=a at hat hmod
 by_cases hf:1048576<a
 ·unfold tryX
  rw [if_pos hf]
  exact ⟨h,Mo.same hX fun _ _=>rfl⟩
 ·have hF:=electF_fi (a:=a) hs n7.2.1 hd (by omega)
  have hXh:=hX.hear hu hF (by omega) hs
  have hh:=hearN_hf (hX.nd s hs) hu hF (by omega:m<4000000000)
  have hex:=hear_ex (f:=electF s d a) h.ex (hX.nd s hs) hu hF (by omega) hs hX
  have hgx:∀ e,e<6→∃ g g',GX zs V e g∧GX zs (hearX V s (electF s d a)) e g'∧g'.val=g.val∧∀ b,b∈ansN s (V.nd s) (electF s d a)→b.d=(e:Int)→Fr zs (stD (hearX V s (electF s d a)) e) g' b:=fun e he=>by
   obtain ⟨g,hg⟩:=h.gx e he
   obtain ⟨g',k1,-,k3,k4⟩:=hear_gx hg (hX.nd s hs) hu hF (by omega) hs hX.fr fun _=>fr_plain (.inr rfl)
   exact ⟨g,g',hg,k1,k3,k4⟩
  rcases elect_ans (hX.nd s hs) hu hF (by omega) with ⟨u,-⟩|⟨u,f0,hans⟩
  ·unfold tryX
   rw [if_neg hf,if_pos u]
   exact ⟨⟨fun e he=>by obtain ⟨-,g',-,k1,-⟩:=hgx e he; exact ⟨g',k1⟩,hex.1⟩,hex.2⟩
  ·have hf0:FI zs.length f0:=ansN_fi (hX.nd s hs) hu hF (by omega) rfl f0 (by rw [hans]; exact List.mem_singleton.2 rfl)
   have hmem:f0∈ansN s (V.nd s) (electF s d a):=by rw [hans]; exact List.mem_singleton.2 rfl
   have hfd:f0.d=(d:Int):=by
    have hm2:=hmem
    unfold ansN at hm2
    split at hm2
    ·rw [List.mem_singleton] at hm2; rw [hm2]; rfl
    ·cases hm2
   rw [← try_eq s d a f0 hans hf u]
   have hu2:((hearX V s (electF s d a)).nd s).l≠-2:=by
    rw [hearX_nd]
    unfold upN at u
    simpa using u
   have hc0:(oHN (V.nd s) (electF s d a)).c=0:=by
    have:=hh.up
    rw [u] at this
    exact of_decide_eq_true this.symm
   have hnew:(stN ((hearX V s (electF s d a)).nd s) d).pr=a.toNat:=by
    rw [hearX_nd]
    have:=hh.yes hc0
    rw [show (electF s d a).d.toNat=d from Int.toNat_natCast d] at this
    rw [this]
    unfold gHN hearL
    rw [if_neg (by show ¬ ((3:Int).toNat=1); decide),if_pos (by show (3:Int).toNat=3; decide),if_pos ?_]
    ·rfl
    ·show (stN (V.nd s) ((d:Int).toNat)).pr<a.toNat
     rw [Int.toNat_natCast]
     omega
   have h2:=hXh.node (i:=s) ((hXh.nd s hs).putLead (d:=d) (a:=a) (P:=P0) hu2 (by omega) (by decide) (by decide) (P0_w _)) (Nat.le_refl _)
   have h3:=XI.send h2 (electL_fi (a:=a) hs n7.2.1 hd (by omega)).1 (electL_fi (a:=a) hs n7.2.1 hd (by omega)).2
   generalize hV1:hearX V s (electF s d a)=V1 at *
   have hst6:∀ k e,stN ((sendX (setNd V1 s (setLd (V1.nd s) d (a,P0))) (electsL s d a zs.length)).nd k) e=stN (V1.nd k) e:=fun k e=>setLd_st V1 s d _ k e
   -- deal by deal: the lead is there,and hears its own site's answer
   have hx6:((sendX (setNd V1 s (setLd (V1.nd s) d (a,P0))) (electsL s d a zs.length)).nd s).ld d=some (a,P0):=by
    show ((setNd V1 s (setLd (V1.nd s) d (a,P0))).nd s).ld d=_
    rw [nd_at,ld_at]
   have hg6:∀ e,e<6→∃ g',GX zs (sendX (setNd V1 s (setLd (V1.nd s) d (a,P0))) (electsL s d a zs.length)) e g'∧(e=d→Fr zs (stD (sendX (setNd V1 s (setLd (V1.nd s) d (a,P0))) (electsL s d a zs.length)) e) g' f0):=fun e he=>by
    obtain ⟨g,g',hg,k1,k3,k4⟩:=hgx e he
    have hes:stD (sendX (setNd V1 s (setLd (V1.nd s) d (a,P0))) (electsL s d a zs.length)) e=stD V1 e:=funext fun k=>hst6 k e
    refine ⟨g',GX.send ?_ fun f hf _=>fr_plain (.inr ?_),fun c=>?_⟩
    ·by_cases c:e=d
     ·subst c
      refine k1.newLead (le_new1 (by omega) ?_ hmod ?_)
      ·rw [k3]
       by_cases hv:g.val a.toNat=0
       ·exact hv
       ·have:=hg.co.ow _ hv (by omega)
        rw [hmod] at this
        have this2:a.toNat≤(stN (V.nd s) e).pr:=this
        omega
      ·show a.toNat≤(stN (V1.nd s) e).pr
       omega
     ·exact k1.other c
    ·unfold electsL at hf
     exact (toL_mem (List.mem_of_mem_eraseIdx hf)).1
    ·rw [hes]
     exact k4 f0 hmem (by rw [hfd,c])
   generalize hV6:sendX (setNd V1 s (setLd (V1.nd s) d (a,P0))) (electsL s d a zs.length)=V6 at *
   have he6:V6.evs=V1.evs:=by rw [← hV6]; rfl
   have hst7:∀ k e,stN ((sendX (leadX zs V6 s d f0) (leadO zs V6 s d f0)).nd k) e=stN (V6.nd k) e:=fun k e=>by
    rw [(leadX_some hx6).1]
    exact setLd_st V6 s d _ k e
   have hst8:∀ k e,stN ((sendX (leadX zs V6 s d f0) (leadO zs V6 s d f0)).nd k) e=stN (V1.nd k) e:=fun k e=>(hst7 k e).trans (hst6 k e)
   refine ⟨⟨fun e he=>?_,hex.1.same hst8 (by rw [(leadX_some hx6).1]; exact he6)⟩,hex.2.trans (Mo.same hXh hst8)⟩
   obtain ⟨g',k1,k2⟩:=hg6 e he
   rw [(leadX_some hx6).1,(leadX_some hx6).2]
   by_cases c:e=d
   ·subst c
    obtain ⟨g2,q1,q2⟩:=lead_gx k1 hX.he hx6 (P0_w _) hs h3.fr (k2 rfl)
    exact ⟨g2,q1.send fun o ho _=>q2 o ho⟩
   ·refine ⟨g',(k1.other c).send fun o ho hoe=>?_⟩
    exfalso
    cases hy:(phear zs s d a P0 f0).2 with
    | none=>rw [hy] at ho; cases ho
    | some y =>
     rw [hy] at ho
     have:=(toL_mem ho).2.2.2.2.2
     omega
theorem XI.ticks {s d:Nat} (hX:XI zs V m) (hs:s<zs.length) (hd:d<6) (hu:(V.nd s).l≠-2) (hm:m<1000000):XI zs (tickD zs V s d) (m+7):=by
 have n7:=(errW_zero hX.he).2.1
 have hg:=(hX.nd s hs).gd d hd
 unfold tickD
 split
 ·exact hX.mono (by omega)
 ·split
  ·have:=hg.1
   have:=hg.2.1
   refine (XI.send hX (toL_fi hs n7 hd (by decide) (by unfold stN; omega) (by unfold stN; omega) _ (Nat.le_refl _)) (by rw [toL_length]; omega)).mono (by omega)
  ·exact hX.try hs hd hu hm
theorem AX.ticks {s d:Nat} (h:AX zs V) (hX:XI zs V m) (hs:s<zs.length) (hd:d<6) (hu:(V.nd s).l≠-2) (hm:m<1000000):AX zs (tickD zs V s d)∧Mo zs V (tickD zs V s d):=by
 unfold tickD
 split
 ·exact ⟨h,Mo.same hX fun _ _=>rfl⟩
 ·split
  ·refine ⟨⟨fun e he=>?_,h.ex.same (fun _ _=>rfl) rfl⟩,Mo.same hX fun _ _=>rfl⟩
   obtain ⟨g,hg⟩:=h.gx e he
   refine ⟨g,hg.send fun f hf hfe=>?_⟩
   have hfd:=(toL_mem hf).2.2.2.2.2
   have c:e=d:=by omega
   subst c
   exact fr_dec (fun q=>hg.co.s2 s hs (by show (stN (V.nd s) e).ph=2; omega)) (fun q=>hg.co.s3 s hs (by show (stN (V.nd s) e).ph=3; omega)) f hf
  ·exact h.try hX hs hd hu hm
theorem AX.tick {s:Nat} (hs:s<zs.length):∀ (k d:Nat) (V:PX) (m:Nat),d+k≤6→AX zs V→XI zs V m→(V.nd s).l≠-2→m+7 * k<1000000→AX zs (tickX zs s k d V)∧Mo zs V (tickX zs s k d V)
 | 0,_,V,_,_,h,hX,_,_=>⟨h,Mo.same hX fun _ _=>rfl⟩
 | k+1,d,V,m,hk,h,hX,hu,hm=>by
  have h1:=h.ticks hX hs (d:=d) (by omega) hu (by omega)
  have hX1:=hX.ticks hs (d:=d) (by omega) hu (by omega)
  unfold tickX
  split
  ·rename_i hup
   have h2:=AX.tick hs k (d+1) _ (m+7) (by omega) h1.1 hX1 (by unfold upN at hup; simpa using hup) (by omega)
   exact ⟨h2.1,h1.2.trans h2.2⟩
  ·exact h1
theorem AX.new:AX zs newX :=
 ⟨fun d hd=>⟨_,Co.zero (fun i _=>by
   show (dealL (zeroB 512).data.toList d).2.ph=0
   rw [deal_zero 512 d (by omega)]; rfl),fun f hf=>(by cases hf),fun i x _ hx=>(by cases hx)⟩,⟨fun e he=>(by cases he),List.Pairwise.nil⟩⟩
end
def Stp (zs:List Int) (V V':PX):Prop :=
 V'=V ∨ (∃ s d:Nat,s<zs.length∧d<6∧cBeg zs.length V (s:Int) (d:Int)=0∧V'=beginX zs V s d) ∨ (∃ s d,s<zs.length∧upN (V.nd s)=true∧V'=refuseX V s d) ∨ (∃ s,s<zs.length∧upN (V.nd s)=true∧V'=tickX zs s 6 0 V) ∨
 (∃ s,s<zs.length∧upN (V.nd s)=true∧V'=downX V s) ∨ (∃ s,s<zs.length∧upN (V.nd s)=false∧V'=upX V s) ∨ (∃ k,V'=takeX V k) ∨ (∃ k f,f∈V.fly∧V'=twiceX V k f) ∨ (∃ a b x,V'=linkX V a b x) ∨ (∃ s n,s<zs.length∧V'=cutX V s n) ∨ (∃ k f,V.fly[k]? = some f∧V'=deliverX zs V k f)
section
variable {zs:List Int} {V:PX}
theorem Stp.same:Stp zs V V:=.inl rfl
theorem Stp.begin (s d:Nat) (hs:s<zs.length) (hd:d<6) (hc:cBeg zs.length V s d=0):Stp zs V (beginX zs V s d):=.inr (.inl ⟨s,d,hs,hd,hc,rfl⟩)
theorem Stp.refuse (s d:Nat) (hs:s<zs.length) (hu:upN (V.nd s)=true):Stp zs V (refuseX V s d):=.inr (.inr (.inl ⟨s,d,hs,hu,rfl⟩))
theorem Stp.tick (s:Nat) (hs:s<zs.length) (hu:upN (V.nd s)=true):Stp zs V (tickX zs s 6 0 V):=.inr (.inr (.inr (.inl ⟨s,hs,hu,rfl⟩)))
theorem Stp.down (s:Nat) (hs:s<zs.length) (hu:upN (V.nd s)=true):Stp zs V (downX V s):=.inr (.inr (.inr (.inr (.inl ⟨s,hs,hu,rfl⟩))))
theorem Stp.wake (s:Nat) (hs:s<zs.length) (hu:upN (V.nd s)=false):Stp zs V (upX V s):=.inr (.inr (.inr (.inr (.inr (.inl ⟨s,hs,hu,rfl⟩)))))
theorem Stp.take (k:Nat):Stp zs V (takeX V k):=.inr (.inr (.inr (.inr (.inr (.inr (.inl ⟨k,rfl⟩))))))
theorem Stp.twice (k:Nat) (f:F9) (hf:f∈V.fly):Stp zs V (twiceX V k f):=.inr (.inr (.inr (.inr (.inr (.inr (.inr (.inl ⟨k,f,hf,rfl⟩)))))))
theorem Stp.link (a b:Nat) (x:Bool):Stp zs V (linkX V a b x):=.inr (.inr (.inr (.inr (.inr (.inr (.inr (.inr (.inl ⟨a,b,x,rfl⟩))))))))
theorem Stp.cut (s:Nat) (n:Int) (hs:s<zs.length):Stp zs V (cutX V s n):=.inr (.inr (.inr (.inr (.inr (.inr (.inr (.inr (.inr (.inl ⟨s,n,hs,rfl⟩)))))))))
theorem Stp.deliver (k:Nat) (f:F9) (hk:V.fly[k]? = some f):Stp zs V (deliverX zs V k f):=.inr (.inr (.inr (.inr (.inr (.inr (.inr (.inr (.inr (.inr ⟨k,f,hk,rfl⟩)))))))))
end
theorem nd_keep {V:PX} {s:Nat} {N:PN} (hst:∀ d,stN N d=stN (V.nd s) d):∀ i d,stN ((setNd V s N).nd i) d=stN (V.nd i) d:=by
 intro i d
 by_cases e:i=s
 ·subst e; rw [nd_at]; exact hst d
 ·rw [nd_ne _ _ _ e]
theorem ld_keep {V:PX} {s:Nat} {N:PN} (hld:∀ d x,N.ld d=some x→(V.nd s).ld d=some x):∀ i d x,((setNd V s N).nd i).ld d=some x→(V.nd i).ld d=some x:=by
 intro i d x
 by_cases e:i=s
 ·subst e; rw [nd_at]; exact hld d x
 ·rw [nd_ne _ _ _ e]; exact id
theorem Stp.ax {zs:List Int} {V V':PX} {m:Nat} (h:Stp zs V V') (hA:AX zs V) (hX:XI zs V m) (hm:m<900000):AX zs V'∧Mo zs V V':=by
 rcases h with rfl|⟨s,d,hs,hd,hc,rfl⟩|⟨s,d,hs,hu,rfl⟩|⟨s,hs,hu,rfl⟩|⟨s,hs,hu,rfl⟩|⟨s,hs,hu,rfl⟩|⟨k,rfl⟩|⟨k,f,hf,rfl⟩|⟨a,b,x,rfl⟩|⟨s,n,hs,rfl⟩|⟨k,f,hk,rfl⟩
 ·exact ⟨hA,Mo.same hX fun _ _=>rfl⟩
 ·exact hA.begin hX
 ·exact ⟨hA.quiet (nd_keep fun _=>rfl) (fun i e x _=>ld_keep (V:=V) (s:=s) (N:={ V.nd s with R:=updR (V.nd s).R d }) (fun _ _ y=>y) i e x) (fun _ y=>y) rfl,Mo.same hX (nd_keep fun _=>rfl)⟩
 ·exact AX.tick hs 6 0 V m (by decide) hA hX (by unfold upN at hu; simpa using hu) (by omega)
 ·exact ⟨hA.quiet (nd_keep fun _=>rfl) (fun i d x _=>ld_keep (fun _ _ y=>by cases y) i d x) (fun _ y=>y) rfl,Mo.same hX (nd_keep fun _=>rfl)⟩
 ·exact ⟨hA.quiet (nd_keep fun _=>rfl) (fun i d x _=>ld_keep (V:=V) (s:=s) (N:={ V.nd s with l:=-1,over:=false,R:=fun _=>false }) (fun _ _ y=>y) i d x) (fun _ y=>y) rfl,Mo.same hX (nd_keep fun _=>rfl)⟩
 ·exact ⟨hA.take k,Mo.same hX fun _ _=>rfl⟩
 ·
  refine ⟨hA.quiet (fun _ _=>rfl) (fun _ _ _ _ y=>y) (fun g hg=>?_) rfl,Mo.same hX fun _ _=>rfl⟩
  have hg2:g∈V.fly.take k ++ f :: V.fly.drop k:=hg
  rcases List.mem_append.1 hg2 with y|y
  ·exact List.mem_of_mem_take y
  ·rcases List.mem_cons.1 y with rfl|y
   ·exact hf
   ·exact List.mem_of_mem_drop y
 ·exact ⟨hA.quiet (fun _ _=>rfl) (fun _ _ _ _ y=>y) (fun _ y=>y) rfl,Mo.same hX fun _ _=>rfl⟩
 ·exact ⟨hA.quiet (nd_keep fun _=>rfl) (fun i d x _=>ld_keep (V:=V) (s:=s) (N:={ V.nd s with l:=cL (V.nd s).l n }) (fun _ _ y=>y) i d x) (fun _ y=>y) rfl,Mo.same hX (nd_keep fun _=>rfl)⟩
 ·exact hA.deliver hX (by omega) (List.mem_iff_getElem?.2 ⟨k,hk⟩)
section
variable {w0 w:World} {C:Nat→Nat} {X:XB} {m:Nat} {zs:List Int} {V:PX} {A:Nat→Addr}
theorem inflight_is (h:WD w0 w C X zs V m):Calls Tryz.prog 67 #[.pointer (some ⟨X.xb,0,none⟩)] w fun e w'=>e=.returned (.int .i64 (V.fly.length:Int))∧w'=w:=by
 obtain ⟨-,-,-,c3,-⟩:=h.cells
 obtain ⟨ad,cap,hv⟩:=h.fly.form
 rw [hv] at c3
 clear h hv
 go_enter Tryz.func67,Tryz.ntmps67
 go_wp2_with fail
 go_ret
 exact ⟨rfl,rfl⟩
end
end Go.Proofs.YtaehdgemkafinaaGreatDoor
