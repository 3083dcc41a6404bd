/-
  On the way to PRunsProof: VY YD YF GP.
-/
import Derived.Test.YtjcflddbaeiajacGreatDoorBt38
import Derived.Deep.CutBlock
set_option maxHeartbeats 8000000
set_option maxRecDepth 100000
namespace Go.Proofs.YtjcflddbaeiajacGreatDoor
open Go.RowKit
section
variable {w0 w w':World} {C C':Nat→Nat} {K:NB} {X:XB} {i m m':Nat} {zs:List Int} {N:PN} {V V':PX} {A:Nat→Addr}
theorem elect_ans {n s d:Nat} {a:Int} (hN:NI n N m) (hu:N.l≠-2) (hF:FI n (electF s d a)) (hm:m<4000000000) :
  (upN (hearN N (electF s d a))=false∧ansN s N (electF s d a)=[]) ∨ (upN (hearN N (electF s d a))=true∧∃ f0,ansN s N (electF s d a)=[f0]):=by
 have hh:=hearN_hf hN hu hF hm
 have hk:(gHN N (electF s d a)).k=4:=by
  unfold gHN hearL
  rw [if_neg (by show ¬ ((3:Int).toNat=1); decide),if_pos (by show (3:Int).toNat=3; decide)]
  split <;> rfl
 rcases hh.c with hc|hc
 ·right
  refine ⟨by rw [hh.up,hc]; rfl,?_⟩
  unfold ansN
  rw [if_pos ⟨hc,by rw [hk]; decide⟩]
  exact ⟨_,rfl⟩
 ·left
  refine ⟨by rw [hh.up,hc]; rfl,?_⟩
  unfold ansN
  rw [if_neg (fun h=>by rw [hc] at h; cases h.1)]
theorem WOut.mono (h:WOut w0 w w' C X zs V m) (hm:m≤m'):WOut w0 w w' C X zs V m':=by
 obtain ⟨C',X',x1,x2,x3,x4⟩:=h
 exact ⟨C',X',x1.mono hm,x2,x3,x4⟩
theorem try_any (s d p:Nat) (h:WD w0 w C X zs V m) (hE:Held9 w0 A) (hs:s<zs.length) (hd:d<6) (hu:(V.nd s).l≠-2) (hm:m<1000000) (hp:(stN (V.nd s) d).pr=p) :
  Calls Tryz.prog 117 #[.pointer (some ⟨X.xb,0,none⟩),.int .i64 (s:Int),.int .i64 (d:Int),.int .i64 (p:Int)] w fun e w'=>e=.returned (.tuple #[])∧WOut w0 w w' C X zs (tryX zs V s d (attemptX zs.length s (aboveN (V.nd s) d))) (m+7):=by
 have hbd:=aboveN_bd (h.inv.nd s hs) hd
 have hat:=attemptX_bd zs.length s (aboveN (V.nd s) d) (by omega)
 by_cases hf:1048576<attemptX zs.length s (aboveN (V.nd s) d)
 ·refine (try_far s d p h hE hs hd hp hf).mono ?_
  rintro e w' ⟨h1,h2⟩
  refine ⟨h1,?_⟩
  unfold tryX
  rw [if_pos hf]
  exact h.out h2 (by omega)
 ·obtain ⟨an,ha⟩:=Int.eq_ofNat_of_zero_le (show 0≤attemptX zs.length s (aboveN (V.nd s) d) by omega)
  have hF:=electF_fi (a:=(an:Int)) hs h.n7.2 hd (by omega)
  rcases elect_ans (h.inv.nd s hs) hu hF (by omega) with ⟨u,e⟩|⟨u,f0,e⟩
  ·refine (try_down s d p an h hE hs hd hu hm hp ha (by omega) (by omega) u e).mono ?_
   rintro e w' ⟨h1,h2⟩
   refine ⟨h1,?_⟩
   rw [ha]
   unfold tryX
   rw [if_neg (by omega),if_pos u]
   exact h2.mono (by omega)
  ·have hf0:FI zs.length f0:=ansN_fi (h.inv.nd s hs) hu hF (by omega) rfl f0 (by rw [e]; exact List.mem_singleton.2 rfl)
   refine (try_up s d p an f0 h hE hs hd hu hm hp ha (by omega) (by omega) u e hf0).mono ?_
   rintro e w' ⟨h1,h2⟩
   refine ⟨h1,?_⟩
   rw [ha]
   exact h2.mono (by omega)
theorem tickX_step (s:Nat) {q:Nat} (hq:q<6):tickX zs s (6 - q) q V=if upN ((tickD zs V s q).nd s)=true then tickX zs s (6 - (q+1)) (q+1) (tickD zs V s q) else tickD zs V s q:=by
 rw [show 6 - q=(6 - (q+1))+1 by omega]
 rfl
theorem st_is0 (h1 h2 h3:Nat) (b:Bool) (hb:decide (h1=0∧h2=0∧h3=0)=b) (w:World):(binOp .eql 127 (.agg #[.int .i64 (h1:Int),.int .i64 (h2:Int),.int .i64 (h3:Int)]) (.agg #[.int .i64 0,.int .i64 0,.int .i64 0])).run Tryz.prog w=.ok (.bool b) w :=
 st_eql _ _ _ _ _ _ b (by rw [← hb]; congr 1; exact propext (by omega)) w
theorem tick_ok (s:Nat) (h:WD w0 w C X zs V m) (hE:Held9 w0 A) (hs:s<zs.length) (hu:(V.nd s).l≠-2) (hm:m<900000) :
  Calls Tryz.prog 56 #[.pointer (some ⟨X.xb,0,none⟩),.int .i64 (s:Int)] w fun e w'=>e=.returned .nilIface∧WOut w0 w w' C X zs (tickX zs s 6 0 V) (m+42):=by
 have H:=hid h
 have HE:=hid hE
 have HE1:=hid (h.held hE)
 have HS:=hid hs
 have HU:Hid (((V.nd s).l != -2)=true):=by show ((V.nd s).l != -2)=true; simpa using hu
 obtain ⟨T,HT⟩:∃ T,Hid (tickX zs s 6 0 V=T):=⟨_,rfl⟩
 rw [HT.out]
 clear h hE hs hu
 go_enter Tryz.func56,Tryz.ntmps56
 go_wp2_with fail
 refine (find_ok s H.out HS.out).mono ?_
 rintro e w1 ⟨rfl,hx⟩
 subst w1
 go_wp2_with fail
 refine (powered_is true (H.out.nds s HS.out) HE1.out HU.out).mono ?_
 rintro e w1 ⟨rfl,hb⟩
 simp only [if_true]
 have HB1:=hid hb
 have H1:=hid (H.out.later hb)
 clear hb
 go_wp2_with fail
 go_loopw [21] (fun v wr=>∃ (q:Nat) (Vq:PX),q≤6∧v=.int .i64 (q:Int)∧Hid (tickX zs s (6 - q) q Vq=T)∧Hid ((Vq.nd s).l≠-2)∧WOut w0 w wr C X zs Vq (m+7 * q)) (fun v _=>6 - (intOf v).toNat)
 case atStart=>exact ⟨0,V,Nat.zero_le _,rfl,HT.out,by have:=HU.out; show (V.nd s).l≠-2; simpa using this,H.out.out HB1.out (by omega)⟩
 case round =>
  obtain ⟨q,Vq,hq,rfl,HTq,HUq,C1,X1,g1,g2,g3,g4⟩:=hrel
  have HG:=hid (And.intro g1 (And.intro g2 (And.intro g3 g4)))
  have c0:=(g1.nds s HS.out).site
  rw [key_nd g2] at c0
  obtain ⟨⟨h1,h2,h3⟩,HST⟩:∃ x,Hid (stN (Vq.nd s) q=x):=⟨_,rfl⟩
  clear g1 g2 g3 g4
  by_cases hlt:q<6
  ·have HKn:=hid (known_ag q h1 h2 h3 (HG.out.1.nds s HS.out).sp.jp.jr (HG.out.1.nds s HS.out).sp.sr hlt HST.out)
   go_wp2_with fail
   refine HKn.out.mono ?_
   rintro e w2 ⟨rfl,hb2⟩
   obtain ⟨W3,HW3⟩:∃ W3,Hid (w2.alloc (.cells #[.int .i64 (h1:Int),.int .i64 (h2:Int),.int .i64 (h3:Int)] 127)=W3):=⟨_,rfl⟩
   have hW3:=HW3.out
   have HB3:Hid (Below wr.heap.size wr W3):=by rw [← HW3.out]; exact hb2.alloc hb2.size _
   have HR3:Hid (W3.heap[w2.heap.size]? = some (.cells #[.int .i64 (h1:Int),.int .i64 (h2:Int),.int .i64 (h3:Int)] 127 (0,0))):=by rw [← HW3.out]; exact heap_alloc_new w2 _
   have a0:W3.cell? ⟨w2.heap.size,0,none⟩=some (.int .i64 (h1:Int)):=by rw [cell_of_row _ _ _ _ _ _ HR3.out]; rfl
   have a1:W3.cell? ⟨w2.heap.size,1,none⟩=some (.int .i64 (h2:Int)):=by rw [cell_of_row _ _ _ _ _ _ HR3.out]; rfl
   have a2:W3.cell? ⟨w2.heap.size,2,none⟩=some (.int .i64 (h3:Int)):=by rw [cell_of_row _ _ _ _ _ _ HR3.out]; rfl
   have H3:=hid (HG.out.1.later HB3.out)
   have HO3:Hid (WOut w0 w W3 C X zs Vq (m+7 * q)):=⟨C1,X1,H3.out,HG.out.2.1,HG.out.2.2.1.trans (Kept.of_below HB3.out),HG.out.2.2.2⟩
   have HGd:Hid (h1≤5∧h2≤1048576):=by have:=(HG.out.1.inv.nd s HS.out).gd q hlt; have h4:(dlN (Vq.nd s) q).2=⟨h1,h2,h3⟩:=HST.out; rw [h4] at this; exact ⟨this.1,this.2.1⟩
   clear hb2
   by_cases hz:h1=0∧h2=0∧h3=0
   ·obtain ⟨z1,z2,z3⟩:=hz
    have hcmp:∀ w,(binOp .eql 127 (.agg #[.int .i64 (h1:Int),.int .i64 (h2:Int),.int .i64 (h3:Int)]) (.agg #[.int .i64 0,.int .i64 0,.int .i64 0])).run Tryz.prog w=.ok (.bool true) w:=st_is0 h1 h2 h3 true (decide_eq_true ⟨z1,z2,z3⟩)
    obtain ⟨V4,HV⟩:∃ V4,Hid (Vq=V4):=⟨_,rfl⟩
    have HV4:Hid (tickD zs Vq s q=V4):=by
     rw [← HV.out]
     unfold tickD
     exact if_pos (by rw [HST.out,z1,z2,z3]; rfl)
    have HUp4:Hid (upN (V4.nd s)=true):=by rw [← HV.out]; have:=HUq.out; show upN (Vq.nd s)=true; unfold upN; simpa using this
    have HO:Hid (WOut w0 w W3 C X zs V4 (m+7 * q+7)):=by rw [← HV.out]; exact HO3.out.mono (by omega)
    clear z1 z2 z3
    obtain ⟨C4,X4,y1,y2,y3,y4⟩:=HO.out
    obtain ⟨e0,e1,e2⟩:=(y1.nds s HS.out).way
    rw [key_nd y2] at e0
    have HP4:=hid (y1.nds s HS.out).sp.jp.pl
    have HT4:Hid (tickX zs s (6 - (q+1)) (q+1) V4=T):=by have:=HTq.out; rw [tickX_step s hlt,HV4.out,if_pos HUp4.out] at this; exact this
    clear y1 y2 y3 y4
    go_wp2_with fail
    refine (power_b _ _ _ _ true W3 HP4.out HUp4.out).mono ?_
    rintro e w5 ⟨rfl,hx⟩
    subst w5
    go_wp2_with fail
    go_roundw
    case rel=>exact ⟨q+1,V4,by omega,by go_num,HT4.out,(by have:=HUp4.out; show (V4.nd s).l≠-2; unfold upN at this; simpa using this),HO.out.mono (by omega)⟩
    case measure=>simp [intOf]; omega
   ·have hcmp:∀ w,(binOp .eql 127 (.agg #[.int .i64 (h1:Int),.int .i64 (h2:Int),.int .i64 (h3:Int)]) (.agg #[.int .i64 0,.int .i64 0,.int .i64 0])).run Tryz.prog w=.ok (.bool false) w:=st_is0 h1 h2 h3 false (decide_eq_false hz)
    have HNz:Hid (¬ stN (Vq.nd s) q=St.zero):=fun e=>hz (by rw [HST.out] at e; exact ⟨congrArg St.ph e,congrArg St.pr e,congrArg St.at_ e⟩)
    obtain ⟨fb,HF⟩:∃ fb,Hid (finB h1=fb):=⟨_,rfl⟩
    clear hz
    cases fb with
    | true =>
     obtain ⟨V4,HV⟩:∃ V4,Hid (sendX Vq (toL s q 7 h2 h1 zs.length)=V4):=⟨_,rfl⟩
     have HV4:Hid (tickD zs Vq s q=V4):=by
      rw [← HV.out]
      unfold tickD
      rw [if_neg HNz.out,HST.out,if_pos HF.out]
      exact rfl
     have HUp4:Hid (upN (V4.nd s)=true):=by rw [← HV.out]; have:=HUq.out; show upN (Vq.nd s)=true; unfold upN; simpa using this
     have HTe:=hid (tellEnd_any s q h1 h2 h3 H3.out HS.out hlt HGd.out.1 HGd.out.2 (by omega))
     rw [key_xb HG.out.2.1,HV.out] at HTe
     go_wp2_with (go_at_call 115; refine (wisEnd_is h1 true _ HF.out).mono ?_; rintro e w9 ⟨rfl,hx⟩; subst w9)
     refine HTe.out.mono ?_
     rintro e w4 ⟨rfl,ho4⟩
     have HO:Hid (WOut w0 w w4 C X zs V4 (m+7 * q+7)):=WOut.step (C1:=C1) (X1:=X1) HG.out.2.1 (HG.out.2.2.1.trans (Kept.of_below HB3.out)) HG.out.2.2.2 ho4
     clear ho4
     obtain ⟨C4,X4,y1,y2,y3,y4⟩:=HO.out
     obtain ⟨e0,e1,e2⟩:=(y1.nds s HS.out).way
     rw [key_nd y2] at e0
     have HP4:=hid (y1.nds s HS.out).sp.jp.pl
     have HT4:Hid (tickX zs s (6 - (q+1)) (q+1) V4=T):=by have:=HTq.out; rw [tickX_step s hlt,HV4.out,if_pos HUp4.out] at this; exact this
     clear y1 y2 y3 y4
     go_wp2_with fail
     refine (power_b _ _ _ _ true w4 HP4.out HUp4.out).mono ?_
     rintro e w5 ⟨rfl,hx⟩
     subst w5
     go_wp2_with fail
     go_roundw
     case rel=>exact ⟨q+1,V4,by omega,by go_num,HT4.out,(by have:=HUp4.out; show (V4.nd s).l≠-2; unfold upN at this; simpa using this),HO.out.mono (by omega)⟩
     case measure=>simp [intOf]; omega
    | false =>
     obtain ⟨V4,HV⟩:∃ V4,Hid (tryX zs Vq s q (attemptX zs.length s (aboveN (Vq.nd s) q))=V4):=⟨_,rfl⟩
     have HV4:Hid (tickD zs Vq s q=V4):=by
      rw [← HV.out]
      unfold tickD
      rw [if_neg HNz.out,HST.out,if_neg (by rw [HF.out]; decide)]
      exact rfl
     have HTr:=hid (try_any s q h2 H3.out HE.out HS.out hlt HUq.out (by omega) (by rw [HST.out]))
     rw [key_xb HG.out.2.1,HV.out] at HTr
     go_wp2_with (go_at_call 115; refine (wisEnd_is h1 false _ HF.out).mono ?_; rintro e w9 ⟨rfl,hx⟩; subst w9)
     refine HTr.out.mono ?_
     rintro e w4 ⟨rfl,ho4⟩
     have HO:Hid (WOut w0 w w4 C X zs V4 (m+7 * q+7)):=WOut.step (C1:=C1) (X1:=X1) HG.out.2.1 (HG.out.2.2.1.trans (Kept.of_below HB3.out)) HG.out.2.2.2 ho4
     clear ho4
     obtain ⟨u,HUp4⟩:∃ u,Hid (upN (V4.nd s)=u):=⟨_,rfl⟩
     cases u with
     | true =>
      obtain ⟨C4,X4,y1,y2,y3,y4⟩:=HO.out
      obtain ⟨e0,e1,e2⟩:=(y1.nds s HS.out).way
      rw [key_nd y2] at e0
      have HP4:=hid (y1.nds s HS.out).sp.jp.pl
      have HT4:Hid (tickX zs s (6 - (q+1)) (q+1) V4=T):=by have:=HTq.out; rw [tickX_step s hlt,HV4.out,if_pos HUp4.out] at this; exact this
      clear y1 y2 y3 y4
      go_wp2_with fail
      refine (power_b _ _ _ _ true w4 HP4.out HUp4.out).mono ?_
      rintro e w5 ⟨rfl,hx⟩
      subst w5
      go_wp2_with fail
      go_roundw
      case rel=>exact ⟨q+1,V4,by omega,by go_num,HT4.out,(by have:=HUp4.out; show (V4.nd s).l≠-2; unfold upN at this; simpa using this),HO.out.mono (by omega)⟩
      case measure=>simp [intOf]; omega
     | false =>
      obtain ⟨C4,X4,y1,y2,y3,y4⟩:=HO.out
      obtain ⟨e0,e1,e2⟩:=(y1.nds s HS.out).way
      rw [key_nd y2] at e0
      have HP4:=hid (y1.nds s HS.out).sp.jp.pl
      have HT4:Hid (V4=T):=by have:=HTq.out; rw [tickX_step s hlt,HV4.out,if_neg (by rw [HUp4.out]; decide)] at this; exact this
      clear y1 y2 y3 y4
      go_wp2_with fail
      refine (power_b _ _ _ _ false w4 HP4.out HUp4.out).mono ?_
      rintro e w5 ⟨rfl,hx⟩
      subst w5
      go_wp2_with fail
      go_ret
      refine ⟨rfl,?_⟩
      rw [← HT4.out]
      exact HO.out.mono (by omega)
  ·obtain rfl:q=6:=by omega
   go_wp2_with fail
   go_ret
   refine ⟨rfl,?_⟩
   rw [← HTq.out]
   exact ⟨C1,X1,HG.out.1,HG.out.2.1,HG.out.2.2.1,HG.out.2.2.2⟩
theorem tick_any (s:Int) (c:Nat) (h:WD w0 w C X zs V m) (hE:Held9 w0 A) (hm:m<900000) (hc:cUp zs.length V s=c) :
  Calls Tryz.prog 56 #[.pointer (some ⟨X.xb,0,none⟩),.int .i64 s] w fun e w'=>e=.returned (ev A c)∧WOut w0 w w' C X zs (if c=0 then tickX zs s.toNat 6 0 V else V) (m+42):=by
 have H:=hid h
 have HE:=hid hE
 have HE1:=hid (h.held hE)
 clear h hE
 subst hc
 by_cases hs:0≤s∧s<zs.length
 ·obtain ⟨k,rfl⟩:=Int.eq_ofNat_of_zero_le hs.1
  have hk:k<zs.length:=by omega
  have HK:=hid hk
  obtain ⟨b,HB⟩:∃ b,Hid (((V.nd k).l != -2)=b):=⟨_,rfl⟩
  have HU:Hid (upN (V.nd k)=b):=HB.out
  cases b with
  | true =>
   have e:cUp zs.length V k=0:=by unfold cUp; rw [if_pos hs,Int.toNat_natCast,HU.out,if_pos rfl]
   rw [e,if_pos rfl,Int.toNat_natCast]
   exact tick_ok k H.out HE.out hk (by have:=HB.out; simpa using this) hm
  | false =>
   have e:cUp zs.length V k=6:=by unfold cUp; rw [if_pos hs,Int.toNat_natCast,HU.out,if_neg (by decide)]
   rw [e]
   clear e hs hk
   go_enter Tryz.func56,Tryz.ntmps56
   go_wp2_with fail
   refine (find_ok k H.out HK.out).mono ?_
   rintro e w1 ⟨rfl,hx⟩
   subst w1
   go_wp2_with fail
   refine (powered_is false (H.out.nds k HK.out) HE1.out HB.out).mono ?_
   rintro e w1 ⟨rfl,hb⟩
   rw [if_neg (by decide),if_neg (by decide)]
   have HB1:=hid hb
   clear hb
   go_wp2_with fail
   go_ret
   exact ⟨rfl,H.out.out HB1.out (by omega)⟩
 ·have e:cUp zs.length V s=2:=by unfold cUp; rw [if_neg hs]
  rw [e]
  have HS:=hid hs
  clear e hs
  go_enter Tryz.func56,Tryz.ntmps56
  go_wp2_with fail
  refine (find_no s H.out HE.out HS.out).mono ?_
  rintro e w1 ⟨rfl,hb⟩
  have HB1:=hid hb
  clear hb
  go_wp2_with fail
  refine (powered_err _ _).mono ?_
  rintro e w2 ⟨rfl,hx⟩
  subst w2
  go_wp2_with fail
  go_ret
  exact ⟨rfl,H.out.out HB1.out (by omega)⟩
end
section
variable {zs:List Int} {V V':PX} {m:Nat} {g g':Gh}
theorem XI.hear {i:Nat} {f:F9} (hX:XI zs V m) (hu:(V.nd i).l≠-2) (hF:FI zs.length f) (hm:m<4000000000) (hi:i<zs.length):XI zs (hearX V i f) (m+1):=by
 have hh:=hearN_hf (hX.nd i hi) hu hF hm
 refine ⟨hX.he,fun k hk=>?_,hX.fr,by have h1:V.fly.length≤1000 * m:=hX.fl; show V.fly.length≤1000 * (m+1); omega,?_⟩
 ·show NI zs.length ((setNd V i (hearN (V.nd i) f)).nd k) (m+1)
  by_cases e:k=i
  ·subst e; rw [nd_at]; exact hh.ni
  ·rw [nd_ne _ _ _ e]; exact (hX.nd k hk).mono (Nat.le_succ _)
 ·show (noteE V.evs i f.d.toNat (stN (V.nd i) f.d.toNat).ph (stN (hearN (V.nd i) f) f.d.toNat).ph).length≤500
  have:=hX.ev
  unfold noteE
  split
  ·rename_i hc
   rw [List.length_append,List.length_singleton]
   have:=hc.2.2
   omega
  ·exact this
theorem leadX_some {i d:Nat} {f:F9} {x:Int×PL} (hx:(V.nd i).ld d=some x):leadX zs V i d f=setNd V i (setLd (V.nd i) d (x.1,(phear zs i d x.1 x.2 f).1))∧leadO zs V i d f=outL i d x.1 zs.length (phear zs i d x.1 x.2 f).2:=by
 unfold leadX leadO
 rw [hx]
 exact ⟨rfl,rfl⟩
theorem leadX_none {i d:Nat} {f:F9} (hx:(V.nd i).ld d=none):leadX zs V i d f=V∧leadO zs V i d f=[]:=by
 unfold leadX leadO
 rw [hx]
 exact ⟨rfl,rfl⟩
theorem XI.lead {i d:Nat} {f:F9} (hX:XI zs V m) (hF:FI zs.length f) (hi:i<zs.length) (hd:d<6):XI zs (sendX (leadX zs V i d f) (leadO zs V i d f)) (m+1):=by
 have n7:=(errW_zero hX.he).2.1
 cases hx:(V.nd i).ld d with
 | none =>
  rw [(leadX_none hx).1,(leadX_none hx).2,sendX_nil]
  exact hX.mono (Nat.le_succ _)
 | some x =>
  rw [(leadX_some hx).1,(leadX_some hx).2]
  obtain ⟨h1,h2,h3,h4,h5⟩:=(hX.nd i hi).ld d x hx
  have hp:=hF.ok.2.2.2.2.2.2.1
  refine XI.send (hX.node ((hX.nd i hi).leadHear hx (phear_st h3) (phear_seen h4.1 h4.2 (by omega) (by omega)) (h5.hear n7)) (Nat.le_refl _)) (outL_fi hi n7 hd h2) ?_
  have:=outL_le i d x.1 zs.length (phear zs i d x.1 x.2 f).2
  omega
theorem XI.try {s d:Nat} (hX:XI zs V m) (hs:s<zs.length) (hd:d<6) (hu:(V.nd s).l≠-2) (hm:m<1000000):XI zs (tryX zs V s d (attemptX zs.length s (aboveN (V.nd s) d))) (m+7):=by
 have n7:=(errW_zero hX.he).2.1
 have hbd:=aboveN_bd (hX.nd s hs) hd
 have hat:=attemptX_bd zs.length s (aboveN (V.nd s) d) (by omega)
 generalize attemptX zs.length s (aboveN (V.nd s) d)=a at hat
 by_cases hf:1048576<a
 ·unfold tryX
  rw [if_pos hf]
  exact hX.mono (by omega)
 ·have hF:=electF_fi (a:=a) hs n7 hd (by omega)
  have hh:=hX.hear hu hF (by omega) hs
  rcases elect_ans (hX.nd s hs) hu hF (by omega) with ⟨u,-⟩|⟨u,f0,e⟩
  ·unfold tryX
   rw [if_neg hf,if_pos u]
   exact hh.mono (by omega)
  ·have hf0:FI zs.length f0:=ansN_fi (hX.nd s hs) hu hF (by omega) rfl f0 (by rw [e]; exact List.mem_singleton.2 rfl)
   rw [← try_eq s d a f0 e hf u]
   have hu2:((hearX V s (electF s d a)).nd s).l≠-2:=by
    rw [hearX_nd]
    unfold upN at u
    simpa using u
   have h2:=hh.node (i:=s) ((hh.nd s hs).putLead (d:=d) (a:=a) (P:=P0) hu2 (by omega) (by decide) (by decide) (P0_w _)) (Nat.le_refl _)
   have h3:=XI.send h2 (electL_fi (a:=a) hs n7 hd (by omega)).1 (electL_fi (a:=a) hs n7 hd (by omega)).2
   exact (h3.lead hf0 hs hd).mono (by omega)
theorem XI.ticks {s d:Nat} (hX:XI zs V m) (hs:s<zs.length) (hd:d<6) (hu:(V.nd s).l≠-2) (hm:m<1000000):XI zs (tickD zs V s d) (m+7):=by
 have n7:=(errW_zero hX.he).2.1
 have hg:=(hX.nd s hs).gd d hd
 unfold tickD
 split
 ·exact hX.mono (by omega)
 ·split
  ·have:=hg.1
   have:=hg.2.1
   refine (XI.send hX (toL_fi hs n7 hd (by decide) (by unfold stN; omega) (by unfold stN; omega) _ (Nat.le_refl _)) (by rw [toL_length]; omega)).mono (by omega)
  ·exact hX.try hs hd hu hm
end
def Stp (zs:List Int) (V V':PX):Prop :=
 V'=V ∨ (∃ s d:Nat,s<zs.length∧d<6∧cBeg zs.length V (s:Int) (d:Int)=0∧V'=beginX zs V s d) ∨ (∃ s d,s<zs.length∧upN (V.nd s)=true∧V'=refuseX V s d) ∨ (∃ s,s<zs.length∧upN (V.nd s)=true∧V'=tickX zs s 6 0 V) ∨
 (∃ s,s<zs.length∧upN (V.nd s)=true∧V'=downX V s) ∨ (∃ s,s<zs.length∧upN (V.nd s)=false∧V'=upX V s) ∨ (∃ k,V'=takeX V k) ∨ (∃ k f,f∈V.fly∧V'=twiceX V k f) ∨ (∃ a b x,V'=linkX V a b x) ∨ (∃ s n,s<zs.length∧V'=cutX V s n) ∨ (∃ k f,V.fly[k]? = some f∧V'=deliverX zs V k f)
section
variable {zs:List Int} {V:PX}
theorem Stp.same:Stp zs V V:=.inl rfl
theorem Stp.begin (s d:Nat) (hs:s<zs.length) (hd:d<6) (hc:cBeg zs.length V s d=0):Stp zs V (beginX zs V s d):=.inr (.inl ⟨s,d,hs,hd,hc,rfl⟩)
theorem Stp.refuse (s d:Nat) (hs:s<zs.length) (hu:upN (V.nd s)=true):Stp zs V (refuseX V s d):=.inr (.inr (.inl ⟨s,d,hs,hu,rfl⟩))
theorem Stp.tick (s:Nat) (hs:s<zs.length) (hu:upN (V.nd s)=true):Stp zs V (tickX zs s 6 0 V):=.inr (.inr (.inr (.inl ⟨s,hs,hu,rfl⟩)))
theorem Stp.down (s:Nat) (hs:s<zs.length) (hu:upN (V.nd s)=true):Stp zs V (downX V s):=.inr (.inr (.inr (.inr (.inl ⟨s,hs,hu,rfl⟩))))
theorem Stp.wake (s:Nat) (hs:s<zs.length) (hu:upN (V.nd s)=false):Stp zs V (upX V s):=.inr (.inr (.inr (.inr (.inr (.inl ⟨s,hs,hu,rfl⟩)))))
theorem Stp.take (k:Nat):Stp zs V (takeX V k):=.inr (.inr (.inr (.inr (.inr (.inr (.inl ⟨k,rfl⟩))))))
theorem Stp.twice (k:Nat) (f:F9) (hf:f∈V.fly):Stp zs V (twiceX V k f):=.inr (.inr (.inr (.inr (.inr (.inr (.inr (.inl ⟨k,f,hf,rfl⟩)))))))
theorem Stp.link (a b:Nat) (x:Bool):Stp zs V (linkX V a b x):=.inr (.inr (.inr (.inr (.inr (.inr (.inr (.inr (.inl ⟨a,b,x,rfl⟩))))))))
theorem Stp.cut (s:Nat) (n:Int) (hs:s<zs.length):Stp zs V (cutX V s n):=.inr (.inr (.inr (.inr (.inr (.inr (.inr (.inr (.inr (.inl ⟨s,n,hs,rfl⟩)))))))))
theorem Stp.deliver (k:Nat) (f:F9) (hk:V.fly[k]? = some f):Stp zs V (deliverX zs V k f):=.inr (.inr (.inr (.inr (.inr (.inr (.inr (.inr (.inr (.inr ⟨k,f,hk,rfl⟩)))))))))
end
section
variable {w0 w:World} {C:Nat→Nat} {X:XB} {m:Nat} {zs:List Int} {V:PX} {A:Nat→Addr}
theorem cUp_zero {n:Nat} {V:PX} {s:Int} (h:cUp n V s=0):s.toNat<n∧upN (V.nd s.toNat)=true:=by
 unfold cUp at h
 split at h
 ·rename_i h1
  split at h
  ·rename_i h2; exact ⟨by omega,h2⟩
  ·cases h
 ·cases h
end
def pickF (V:PX) (q:Nat):Option F9:=V.fly[q % V.fly.length]?
def stepP (zs:List Int) (V:PX) (mv q:Nat):PX×Nat :=
 if mv=7 then (match pickF V q with|some _=>(takeX V (q % V.fly.length),0)|none=>(V,4))
 else if mv=8 then (match pickF V q with|some f=>(twiceX V (q % V.fly.length) f,0)|none=>(V,4))
 else if mv=9 then (if cBeg zs.length V ((q % 7:Nat):Int) ((q / 7 % 6:Nat):Int)=0 then beginX zs V (q % 7) (q / 7 % 6) else V,cBeg zs.length V ((q % 7:Nat):Int) ((q / 7 % 6:Nat):Int))
 else if mv=10 then (if cUp zs.length V ((q % 7:Nat):Int)=0 then tickX zs (q % 7) 6 0 V else V,cUp zs.length V ((q % 7:Nat):Int))
 else if mv=11 then (if cRef zs.length V ((q % 7:Nat):Int) ((q / 7 % 6:Nat):Int)=0 then refuseX V (q % 7) (q / 7 % 6) else V,cRef zs.length V ((q % 7:Nat):Int) ((q / 7 % 6:Nat):Int))
 else if mv=12 then (if q % 7<zs.length∧q / 7 % 6<zs.length then (linkX V (q % 7) (q / 7 % 6) (q % 2 == 0),0) else (V,2))
 else if mv=13 then (if q % 7<zs.length then cutX V (q % 7) ((q % 40:Nat):Int) else V,cCut zs.length V ((q % 7:Nat):Int) ((q % 40:Nat):Int))
 else if mv=14 then (if cUp zs.length V ((q % 7:Nat):Int)=0 then downX V (q % 7) else V,cUp zs.length V ((q % 7:Nat):Int))
 else if mv=15 then (if cWake zs.length V ((q % 7:Nat):Int)=0 then upX V (q % 7) else V,cWake zs.length V ((q % 7:Nat):Int))
 else (match pickF V q with|some f=>(deliverX zs V (q % V.fly.length) f,0)|none=>(V,4))
def numP (zs:List Int) (V:PX) (v:Int):PX×Int:=if v<0 then (V,-1) else ((stepP zs V (v.toNat % 16) (v.toNat / 16)).1,((stepP zs V (v.toNat % 16) (v.toNat / 16)).2:Nat))
section
variable {w0 w:World} {C:Nat→Nat} {X:XB} {m:Nat} {zs:List Int} {V:PX} {A:Nat→Addr}
theorem cWake_zero {n:Nat} {s:Int} (hc:cWake n V s=0):s.toNat<n∧upN (V.nd s.toNat)=false:=by
 unfold cWake at hc
 split at hc
 ·rename_i h1
  split at hc
  ·cases hc
  ·rename_i h2
   refine ⟨by omega,?_⟩
   cases hu:upN (V.nd s.toNat) with
   | false=>rfl
   | true=>exact absurd hu h2
 ·cases hc
theorem cRef_zero {n:Nat} {s d:Int} (hc:cRef n V s d=0):s.toNat<n∧upN (V.nd s.toNat)=true:=by
 unfold cRef at hc
 split at hc
 ·rename_i h1
  split at hc
  ·rename_i h2; exact ⟨by omega,h2⟩
  ·cases hc
 ·cases hc
theorem cBeg_zero {n:Nat} {s d:Int} (hc:cBeg n V s d=0):s.toNat<n∧d.toNat<6:=by
 unfold cBeg at hc
 split at hc
 ·rename_i h1; exact ⟨by omega,by omega⟩
 ·cases hc
theorem stepP_stp (mv q:Nat):Stp zs V (stepP zs V mv q).1:=by
 unfold stepP
 split
 ·split
  ·exact .take _
  ·exact .same
 split
 ·split
  ·rename_i f hf; exact .twice _ f (List.mem_iff_getElem?.2 ⟨_,hf⟩)
  ·exact .same
 split
 ·show Stp zs V (if _ then _ else _)
  split
  ·rename_i hc; have:=cBeg_zero hc; exact .begin _ _ (by omega) (by omega) hc
  ·exact .same
 split
 ·show Stp zs V (if _ then _ else _)
  split
  ·rename_i hc; have:=cUp_zero hc; rw [Int.toNat_natCast] at this; exact .tick _ this.1 this.2
  ·exact .same
 split
 ·show Stp zs V (if _ then _ else _)
  split
  ·rename_i hc; have:=cRef_zero hc; rw [Int.toNat_natCast] at this; exact .refuse _ _ this.1 this.2
  ·exact .same
 split
 ·split
  ·exact .link _ _ _
  ·exact .same
 split
 ·show Stp zs V (if _ then _ else _)
  split
  ·rename_i hc; exact .cut _ _ hc
  ·exact .same
 split
 ·show Stp zs V (if _ then _ else _)
  split
  ·rename_i hc; have:=cUp_zero hc; rw [Int.toNat_natCast] at this; exact .down _ this.1 this.2
  ·exact .same
 split
 ·show Stp zs V (if _ then _ else _)
  split
  ·rename_i hc; have:=cWake_zero hc; rw [Int.toNat_natCast] at this; exact .wake _ this.1 this.2
  ·exact .same
 ·split
  ·rename_i f hf; exact .deliver _ f hf
  ·exact .same
theorem numP_stp (v:Int):Stp zs V (numP zs V v).1:=by
 unfold numP
 split
 ·exact .same
 ·exact stepP_stp _ _
theorem cBeg_le {n:Nat} {s d:Int}:cBeg n V s d≤9:=by
 unfold cBeg
 split
 ·split
  ·split <;> decide
  ·decide
 ·decide
theorem cUp_le {n:Nat} {s:Int}:cUp n V s≤9:=by
 unfold cUp
 split
 ·split <;> decide
 ·decide
theorem cRef_le {n:Nat} {s d:Int}:cRef n V s d≤9:=by
 unfold cRef
 split
 ·split <;> decide
 ·decide
theorem cWake_le {n:Nat} {s:Int}:cWake n V s≤9:=by
 unfold cWake
 split
 ·split <;> decide
 ·decide
theorem cCut_le {n:Nat} {s x:Int}:cCut n V s x≤9:=by
 unfold cCut
 split
 ·exact cC_le _ _
 ·decide
theorem stepP_code (mv q:Nat):(stepP zs V mv q).2≤9:=by
 unfold stepP
 split
 ·split <;> exact Nat.le_of_ble_eq_true rfl
 split
 ·split <;> exact Nat.le_of_ble_eq_true rfl
 split
 ·exact cBeg_le
 split
 ·exact cUp_le
 split
 ·exact cRef_le
 split
 ·split <;> exact Nat.le_of_ble_eq_true rfl
 split
 ·exact cCut_le
 split
 ·exact cUp_le
 split
 ·exact cWake_le
 ·split <;> exact Nat.le_of_ble_eq_true rfl
theorem inflight_is (h:WD w0 w C X zs V m):Calls Tryz.prog 174 #[.pointer (some ⟨X.xb,0,none⟩)] w fun e w'=>e=.returned (.int .i64 (V.fly.length:Int))∧w'=w:=by
 obtain ⟨-,-,-,c3,-⟩:=h.cells
 obtain ⟨ad,cap,hv⟩:=h.fly.form
 rw [hv] at c3
 clear h hv
 go_enter Tryz.func174,Tryz.ntmps174
 go_wp2_with fail
 go_ret
 exact ⟨rfl,rfl⟩
def pickN (V:PX) (q:Nat):Nat:=if V.fly.length=0 then 0 else q % V.fly.length
theorem pick_is (q:Nat) (h:WD w0 w C X zs V m):Calls Tryz.prog 215 #[.pointer (some ⟨X.xb,0,none⟩),.int .i64 (q:Int)] w fun e w'=>e=.returned (.int .i64 (pickN V q:Int))∧w'=w:=by
 have HI:=hid (inflight_is h)
 unfold pickN
 obtain ⟨n,hn⟩:∃ n,V.fly.length=n:=⟨_,rfl⟩
 rw [hn] at HI ⊢
 clear h hn
 by_cases h0:n=0
 ·subst h0
  rw [if_pos rfl]
  go_enter Tryz.func215,Tryz.ntmps215
  go_wp2_with fail
  refine HI.out.mono ?_
  rintro e w1 ⟨rfl,hx⟩
  subst w1
  go_wp2_with fail
  go_ret
  exact ⟨rfl,rfl⟩
 ·rw [if_neg h0]
  have e0:((n:Int) == 0)=false:=beq_eq_false_iff_ne.2 (by omega)
  have e1:Int.tmod (q:Int) (n:Int)=((q % n:Nat):Int):=by rw [Int.tmod_eq_emod_of_nonneg (by omega)]; simp
  go_enter Tryz.func215,Tryz.ntmps215
  go_wp2_with fail
  refine HI.out.mono ?_
  rintro e w1 ⟨rfl,hx⟩
  subst w1
  go_wp2_with fail
  go_ret
  exact ⟨rfl,rfl⟩
theorem pick_some {q:Nat} {f:F9} (hf:pickF V q=some f):∃ h:q % V.fly.length<V.fly.length,V.fly[q % V.fly.length]'h=f∧pickN V q=q % V.fly.length:=by
 obtain ⟨h1,h2⟩:=List.getElem?_eq_some_iff.1 hf
 exact ⟨h1,h2,if_neg (by omega)⟩
theorem pick_none {q:Nat} (hf:pickF V q=none):pickN V q=0∧V.fly.length=0:=by
 have h1:=List.getElem?_eq_none_iff.1 hf
 by_cases h0:V.fly.length=0
 ·exact ⟨if_pos h0,h0⟩
 ·exact absurd (Nat.mod_lt q (Nat.pos_of_ne_zero h0)) (by omega)
def PlayO (A:Nat→Addr) (w0 w:World) (C:Nat→Nat) (X:XB) (zs:List Int) (V:PX) (m mv q:Nat) (e:Ending) (w':World):Prop :=
 e=.returned (ev A (stepP zs V mv q).2)∧WOut w0 w w' C X zs (stepP zs V mv q).1 (m+42)
theorem WOut.mono2 {w':World} {V':PX} {m':Nat} (h:WOut w0 w w' C X zs V' m) (hm:m≤m'):WOut w0 w w' C X zs V' m':=by
 obtain ⟨C',X',h1,h2,h3,h4⟩:=h
 exact ⟨C',X',h1.mono hm,h2,h3,h4⟩
theorem play_drop (q:Nat) (h:WD w0 w C X zs V m) (hE:Held9 w0 A) (hm:m<800000):Calls Tryz.prog 62 #[.pointer (some ⟨X.xb,0,none⟩),.int .i64 (pickN V q:Int)] w (PlayO A w0 w C X zs V m 7 q):=by
 have hs:stepP zs V 7 q=(match pickF V q with|some _=>(takeX V (q % V.fly.length),0)|none=>(V,4)):=if_pos rfl
 cases hf:pickF V q with
 | some f =>
  obtain ⟨h1,-,h3⟩:=pick_some hf
  rw [h3]
  refine (drop_ok _ h h1 (by omega)).mono ?_
  rintro e w' ⟨rfl,ho⟩
  unfold PlayO
  rw [hs,hf]
  exact ⟨rfl,ho.mono2 (by omega)⟩
 | none =>
  obtain ⟨h1,h2⟩:=pick_none hf
  rw [h1]
  refine (drop_no _ h hE (by rw [h2]; omega)).mono ?_
  rintro e w' ⟨rfl,rfl⟩
  unfold PlayO
  rw [hs,hf]
  exact ⟨rfl,h.out (Below.refl _ _) (by omega)⟩
theorem play_twice (q:Nat) (h:WD w0 w C X zs V m) (hE:Held9 w0 A) (hm:m<800000):Calls Tryz.prog 64 #[.pointer (some ⟨X.xb,0,none⟩),.int .i64 (pickN V q:Int)] w (PlayO A w0 w C X zs V m 8 q):=by
 have hs:stepP zs V 8 q=(match pickF V q with|some f=>(twiceX V (q % V.fly.length) f,0)|none=>(V,4)):=(if_neg (by decide)).trans (if_pos rfl)
 cases hf:pickF V q with
 | some f =>
  obtain ⟨h1,h2,h3⟩:=pick_some hf
  rw [h3]
  refine (twice_ok _ f h h1 h2 (by omega)).mono ?_
  rintro e w' ⟨rfl,ho⟩
  unfold PlayO
  rw [hs,hf]
  exact ⟨rfl,ho.mono2 (by omega)⟩
 | none =>
  obtain ⟨h1,h2⟩:=pick_none hf
  rw [h1]
  refine (twice_no _ h hE (by rw [h2]; omega)).mono ?_
  rintro e w' ⟨rfl,rfl⟩
  unfold PlayO
  rw [hs,hf]
  exact ⟨rfl,h.out (Below.refl _ _) (by omega)⟩
theorem play_deliver (mv q:Nat) (hv:mv<7) (h:WD w0 w C X zs V m) (hE:Held9 w0 A) (hm:m<800000):Calls Tryz.prog 70 #[.pointer (some ⟨X.xb,0,none⟩),.int .i64 (pickN V q:Int)] w (PlayO A w0 w C X zs V m mv q):=by
 have hs:stepP zs V mv q=(match pickF V q with|some f=>(deliverX zs V (q % V.fly.length) f,0)|none=>(V,4)):=by
  unfold stepP
  rw [if_neg (by omega),if_neg (by omega),if_neg (by omega),if_neg (by omega),if_neg (by omega),if_neg (by omega),if_neg (by omega),if_neg (by omega),if_neg (by omega)]
 cases hf:pickF V q with
 | some f =>
  obtain ⟨h1,h2,h3⟩:=pick_some hf
  rw [h3]
  refine (deliver_ok _ f h hE h1 h2 (by omega)).mono ?_
  rintro e w' ⟨rfl,ho⟩
  unfold PlayO
  rw [hs,hf]
  exact ⟨rfl,ho.mono2 (by omega)⟩
 | none =>
  obtain ⟨h1,h2⟩:=pick_none hf
  rw [h1]
  refine (deliver_no _ h hE (by rw [h2]; omega)).mono ?_
  rintro e w' ⟨rfl,rfl⟩
  unfold PlayO
  rw [hs,hf]
  exact ⟨rfl,h.out (Below.refl _ _) (by omega)⟩
theorem play_link (q:Nat) (h:WD w0 w C X zs V m) (hE:Held9 w0 A) (hm:m<800000):Calls Tryz.prog 66 #[.pointer (some ⟨X.xb,0,none⟩),.int .i64 ((q % 7:Nat):Int),.int .i64 ((q / 7 % 6:Nat):Int),.bool (q % 2 == 0)] w (PlayO A w0 w C X zs V m 12 q):=by
 have hs:stepP zs V 12 q=(if q % 7<zs.length∧q / 7 % 6<zs.length then (linkX V (q % 7) (q / 7 % 6) (q % 2 == 0),0) else (V,2)):=rfl
 by_cases hf:q % 7<zs.length∧q / 7 % 6<zs.length
 ·refine (link_ok _ _ _ h hf.1 hf.2 (by omega)).mono ?_
  rintro e w' ⟨rfl,ho⟩
  unfold PlayO
  rw [hs,if_pos hf]
  exact ⟨rfl,ho.mono2 (by omega)⟩
 ·refine (link_no _ _ _ h hE (by omega)).mono ?_
  rintro e w' ⟨rfl,rfl⟩
  unfold PlayO
  rw [hs,if_neg hf]
  exact ⟨rfl,h.out (Below.refl _ _) (by omega)⟩
theorem play_begin (q:Nat) (h:WD w0 w C X zs V m) (hE:Held9 w0 A) (hm:m<800000):Calls Tryz.prog 45 #[.pointer (some ⟨X.xb,0,none⟩),.int .i64 ((q % 7:Nat):Int),.int .i64 ((q / 7 % 6:Nat):Int)] w (PlayO A w0 w C X zs V m 9 q):=by
 refine (begin_any _ _ _ h hE (by omega) rfl).mono ?_
 rintro e w' ⟨rfl,ho⟩
 exact ⟨rfl,ho.mono2 (by omega)⟩
theorem play_tick (q:Nat) (h:WD w0 w C X zs V m) (hE:Held9 w0 A) (hm:m<800000):Calls Tryz.prog 56 #[.pointer (some ⟨X.xb,0,none⟩),.int .i64 ((q % 7:Nat):Int)] w (PlayO A w0 w C X zs V m 10 q):=by
 refine (tick_any _ _ h hE (by omega) rfl).mono ?_
 rintro e w' ⟨rfl,ho⟩
 exact ⟨rfl,ho.mono2 (by omega)⟩
theorem play_refuse (q:Nat) (h:WD w0 w C X zs V m) (hE:Held9 w0 A) (hm:m<800000):Calls Tryz.prog 54 #[.pointer (some ⟨X.xb,0,none⟩),.int .i64 ((q % 7:Nat):Int),.int .i64 ((q / 7 % 6:Nat):Int)] w (PlayO A w0 w C X zs V m 11 q):=by
 refine (refuse_any _ _ _ h hE (by omega) rfl).mono ?_
 rintro e w' ⟨rfl,ho⟩
 exact ⟨rfl,ho.mono2 (by omega)⟩
theorem play_cut (q:Nat) (h:WD w0 w C X zs V m) (hE:Held9 w0 A):Calls Tryz.prog 68 #[.pointer (some ⟨X.xb,0,none⟩),.int .i64 ((q % 7:Nat):Int),.int .i64 ((q % 40:Nat):Int)] w (PlayO A w0 w C X zs V m 13 q):=by
 have hs:stepP zs V 13 q=(if q % 7<zs.length then cutX V (q % 7) ((q % 40:Nat):Int) else V,cCut zs.length V ((q % 7:Nat):Int) ((q % 40:Nat):Int)):=rfl
 refine (cut_any _ _ _ h hE (by omega) rfl).mono ?_
 rintro e w' ⟨rfl,ho⟩
 unfold PlayO
 rw [hs]
 refine ⟨rfl,?_⟩
 by_cases hc:q % 7<zs.length
 ·rw [if_pos (by omega)] at ho
  show WOut w0 w w' C X zs (if q % 7<zs.length then _ else _) _
  rw [if_pos hc]
  exact ho.mono2 (by omega)
 ·rw [if_neg (by omega)] at ho
  show WOut w0 w w' C X zs (if q % 7<zs.length then _ else _) _
  rw [if_neg hc]
  exact ho.mono2 (by omega)
theorem play_down (q:Nat) (h:WD w0 w C X zs V m) (hE:Held9 w0 A):Calls Tryz.prog 58 #[.pointer (some ⟨X.xb,0,none⟩),.int .i64 ((q % 7:Nat):Int)] w (PlayO A w0 w C X zs V m 14 q):=by
 refine (down_any _ _ h hE rfl).mono ?_
 rintro e w' ⟨rfl,ho⟩
 exact ⟨rfl,ho.mono2 (by omega)⟩
theorem play_wake (q:Nat) (h:WD w0 w C X zs V m) (hE:Held9 w0 A):Calls Tryz.prog 60 #[.pointer (some ⟨X.xb,0,none⟩),.int .i64 ((q % 7:Nat):Int)] w (PlayO A w0 w C X zs V m 15 q):=by
 refine (wake_any _ _ h hE rfl).mono ?_
 rintro e w' ⟨rfl,ho⟩
 exact ⟨rfl,ho.mono2 (by omega)⟩
end
end Go.Proofs.YtjcflddbaeiajacGreatDoor
