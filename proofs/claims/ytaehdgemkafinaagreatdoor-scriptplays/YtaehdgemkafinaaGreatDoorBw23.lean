/-
  On the way to SPlaysProof: VP VQ VR VS.
-/
import Derived.Test.YtaehdgemkafinaaGreatDoorBw22
set_option maxHeartbeats 8000000
set_option maxRecDepth 100000
namespace Go.Proofs.YtaehdgemkafinaaGreatDoor
open Go.RowKit
theorem sizePair:(Tryz.prog.info? 172).map (·.size)=some 2:=by kernel_rfl
theorem set2 {w:World} {g:Nat} {a b:Value} {t:TypeId} (h:w.heap[g]? = some (.cells #[a,b] t (0,0))) (x0 x1:Value) :
  ((w.setCell ⟨g,0,none⟩ x0).setCell ⟨g,1,none⟩ x1).heap[g]? = some (.cells #[x0,x1] t (0,0)):=by
 have h0:=heap_setCell_same w g 0 _ _ x0 h
 have h1:=heap_setCell_same _ g 1 _ _ x1 h0
 rw [h1]; rfl
theorem between_p (a b:Nat) (w:World) :
  Calls Tryz.prog 119 #[.int .i64 (a:Int),.int .i64 (b:Int)] w fun e w'=>e=.returned (pairV (min a b) (max a b))∧Below w.heap.size w w':=by
 have e1:((min a b:Nat):Int)=min (a:Int) b:=by omega
 have e2:((max a b:Nat):Int)=max (a:Int) b:=by omega
 unfold pairV
 rw [e1,e2]
 go_enter Tryz.func119,Tryz.ntmps119
 go_wp2_with fail
 refine bodyPost_ret (results_cell_row rfl _ _ w.heap.size 172 _ (0,0) _ rfl (heap_alloc_new w _) Tryz.underlying172 rfl sizePair) rfl ?_
 exact ⟨rfl,(Below.refl _ _).alloc (Nat.le_refl _) _⟩
theorem Tryz.laidP:laidOutB Tryz.prog=true:=by kernel_rfl
theorem pdec:(decide (172<Tryz.prog.types.size))=true:=by kernel_rfl
theorem plaw:Maps.Keyed Tryz.prog 172:=Maps.Keyed.of_law (deep_law_laid Tryz.laidP (m:=2) (by omega) (of_decide_eq_true pdec) (by kernel_rfl) (by rw [Tryz.underlying172]))
theorem pkeys:((List.range 7).all fun a=>(List.range 7).all fun b=>(keyOf Tryz.prog 172 (pairV a b)).isSome)=true:=by kernel_rfl
theorem pkey_some (a b:Nat) (ha:a<7) (hb:b<7):∃ l,keyOf Tryz.prog 172 (pairV a b)=some l:=by
 have:=List.all_eq_true.1 (List.all_eq_true.1 pkeys a (List.mem_range.2 ha)) b (List.mem_range.2 hb)
 exact Option.isSome_iff_exists.1 this
theorem power_b (p q:Nat) (B:ByteArray) (l:Int) (b:Bool) (w:World) (h:Pl w p q B l) (hb:(l != -2)=b) :
  Calls Tryz.prog 112 #[.pointer (some ⟨p,0,none⟩)] w fun e w'=>e=.returned (.bool b)∧w'=w:=by
 rw [← hb]; exact power_any p q B l w h
theorem Pl.drewQ {w:World} {p q:Nat} {B:ByteArray} {l:Int} (h:Pl w p q B l) (k:Nat):Pl (w.drewN k) p q B l:=⟨h.ne,h.head,h.row⟩
theorem munitP (w:World):(zeroValue 174).run Tryz.prog w=.ok (.agg #[]) w:=by kernel_rfl
section
variable {w0 w w':World} {C:Nat→Nat} {K:NB} {X:XB} {i m m':Nat} {zs:List Int} {N:PN} {V V':PX} {A:Nat→Addr}
theorem WD.look (h:WD w0 w C X zs V m):∃ o,w.heap[X.mb]? = some o∧∀ w',w'.heap[X.mb]? = some o→∀ a b,a<7→b<7→(Instr.lookup 146 (.map (some X.mb)) (pairV a b) true).run Tryz.prog w'=.ok (.tuple #[.agg #[],.bool (V.br a b)]) w':=by
 obtain ⟨D,hD,hh⟩:=h.brk
 obtain ⟨es,cl,hb,hr⟩:=hD
 refine ⟨_,hb,fun w' hb' a b ha hb2=>?_⟩
 have hD':w'.ownsMap Tryz.prog 172 unitElem X.mb m D:=⟨es,cl,hb',hr⟩
 obtain ⟨l,hl⟩:=pkey_some a b ha hb2
 obtain ⟨v,ps,hrun,hv⟩:=hD'.look_ok plaw Tryz.underlying146 (munitP w') (zd:=.agg []) (zp:=[]) unitElem_mk hl
 obtain ⟨rfl,_⟩:=unitElem_inv hv
 rw [hrun,hh a b ha hb2 l hl]
theorem reaches_is (f d k a ph pr pa:Nat) (y:Bool) (r:Bool) (h:WD w0 w C X zs V m) (hf:f<zs.length) (hi:i<zs.length) (hr:reachB V (frN f i d k a y ph pr pa)=r) :
  Calls Tryz.prog 115 #[.pointer (some ⟨X.xb,0,none⟩),frV (f:Int) (i:Int) (d:Int) (k:Int) (a:Int) y (ph:Int) (pr:Int) (pa:Int)] w fun e w'=>e=.returned (.bool r)∧Below w.heap.size w w':=by
 obtain ⟨W,HW⟩:∃ W,Hid (w.alloc (.cells #[.int .i64 (f:Int),.int .i64 (i:Int),.int .i64 (d:Int),.int .i64 (k:Int),.int .i64 (a:Int),.bool y,.int .i64 (ph:Int),.int .i64 (pr:Int),.int .i64 (pa:Int)] 125)=W):=⟨_,rfl⟩
 have HB:Hid (Below w.heap.size w W):=by rw [← HW.out]; exact (Below.refl _ _).alloc (Nat.le_refl _) _
 have HR:Hid (W.heap[w.heap.size]? = some (.cells #[.int .i64 (f:Int),.int .i64 (i:Int),.int .i64 (d:Int),.int .i64 (k:Int),.int .i64 (a:Int),.bool y,.int .i64 (ph:Int),.int .i64 (pr:Int),.int .i64 (pa:Int)] 125 (0,0))):=by rw [← HW.out]; exact heap_alloc_new w _
 obtain ⟨b0,b1,b2,b3,b4,b5,b6,b7,b8⟩:=nine HR.out
 have H0:=hid h
 have H1:=hid (h.later HB.out)
 have HI:=hid hi
 have HF:=hid hf
 have n7:=h.n7
 obtain ⟨-,c1,c2,-,-⟩:=H1.out.cells
 obtain ⟨o,ho,hlook⟩:=H1.out.look
 obtain ⟨bb,HBB⟩:∃ bb,Hid (V.br (min f i) (max f i)=bb):=⟨_,rfl⟩
 have hlk:∀ w',w'.heap[X.mb]? = some o→(Instr.lookup 146 (.map (some X.mb)) (pairV (min f i) (max f i)) true).run Tryz.prog w'=.ok (.tuple #[.agg #[],.bool bb]) w':=fun w' hw'=>by rw [← HBB.out]; exact hlook w' hw' _ _ (by omega) (by omega)
 have HRR:=hid hr
 have hW:=HW.out
 have hxs:=row_ltJ H1.out.row
 clear h hf hi hlook hr
 go_enter Tryz.func115,Tryz.ntmps115
 go_wp2_with fail
 go_cut [5,6] from 7 (fun _ s6 wx=>s6=.bool bb∧Below w.heap.size w wx∧wx.heap[w.heap.size]? = some (.cells #[.int .i64 (f:Int),.int .i64 (i:Int),.int .i64 (d:Int),.int .i64 (k:Int),.int .i64 (a:Int),.bool y,.int .i64 (ph:Int),.int .i64 (pr:Int),.int .i64 (pa:Int)] 125 (0,0)))
 case first =>
  go_region_held3 (fun V=>V.cell? ⟨X.xb,2,none⟩=some (.map (some X.mb))∧V.cell? ⟨w.heap.size,0,none⟩=some (.int .i64 (f:Int))∧V.cell? ⟨w.heap.size,1,none⟩=some (.int .i64 (i:Int))∧V.heap[X.mb]? = some o) (first|exact ⟨c2,b0,b1,ho⟩|exact ⟨cell_alloc _ c2,cell_alloc _ b0,cell_alloc _ b1,(Below.heap_alloc _ _ _ (row_ltJ ho)).trans ho⟩|exact ⟨q1,q2,q3,q4⟩|exact ⟨cell_alloc _ q1,cell_alloc _ q2,cell_alloc _ q3,(Below.heap_alloc _ _ _ (row_ltJ q4)).trans q4⟩|go_keep) (first|(go_at_call 119; (with_reducible refine (between_p f i _).mono ?_); rintro e w3 ⟨rfl,hb3⟩; have q1:=cell_later hb3 c2; have q2:=cell_later hb3 b0; have q3:=cell_later hb3 b1; have q4:=((hb3.block _ (row_ltJ ho)).trans ho); have HB3:=hid (HB.out.drew.trans (hb3.mono HB.out.size)); have HR3:=hid ((hb3.block _ (row_ltJ HR.out)).trans HR.out); clear hb3)|(go_at_call 119; (with_reducible refine (between_p f i _).mono ?_); rintro e w3 ⟨rfl,hb3⟩; have q1:=cell_later hb3 (cell_alloc _ c2); have q2:=cell_later hb3 (cell_alloc _ b0); have q3:=cell_later hb3 (cell_alloc _ b1); have q4:=((hb3.block _ (Nat.lt_of_lt_of_le (row_ltJ ho) (kept_alloc (fun _=>False) _ _).size)).trans ((Below.heap_alloc _ _ _ (row_ltJ ho)).trans ho)); have HB3:=hid ((HB.out.drew.alloc HB.out.size _).trans (hb3.mono (Nat.le_trans HB.out.size (kept_alloc (fun _=>False) _ _).size))); have HR3:=hid ((hb3.block _ (Nat.lt_of_lt_of_le (row_ltJ HR.out) (kept_alloc (fun _=>False) _ _).size)).trans ((Below.heap_alloc _ _ _ (row_ltJ HR.out)).trans HR.out)); clear hb3))
  all_goals go_wp2_with fail
  all_goals go_meet
  all_goals first|exact ⟨rfl,HB3.out,HR3.out⟩|exact ⟨rfl,HB3.out.alloc HB3.out.size _,(Below.heap_alloc _ _ _ (row_ltJ HR3.out)).trans HR3.out⟩
 obtain ⟨rfl,hb3,hr3⟩:=hcut
 rename_i w3
 have HB3:=hid hb3
 have HR3:=hid hr3
 clear hb3 hr3 b0 b1 b2 b3 b4 b5 b6 b7 b8 c1 c2 ho hlk hxs hW
 have H3:=hid (H0.out.later HB3.out)
 obtain ⟨b0,b1,b2,b3,b4,b5,b6,b7,b8⟩:=nine HR3.out
 obtain ⟨-,c1,-,-,-⟩:=H3.out.cells
 have c2:=H3.out.ns i HI.out
 obtain ⟨d0,d1,d2⟩:=(H3.out.nds i HI.out).way
 obtain ⟨n,hn7⟩:∃ n,Hid (zs.length=n):=⟨_,rfl⟩
 have hin:=HI.out
 rw [hn7.out] at c1 hin n7
 obtain ⟨u,HU⟩:∃ u,Hid (((V.nd i).l != -2)=u):=⟨_,rfl⟩
 have HP:=hid (H3.out.nds i HI.out).sp.jp.pl
 have HRB:Hid (r=(u && (decide (f=i) || !bb))):=by
  rw [← HRR.out,← HU.out,← HBB.out]
  unfold reachB
  show (upN (V.nd i) && ((f:Int) == (i:Int) || !brX V f i))=_
  rw [show ((f:Int) == (i:Int))=decide (f=i) by rw [Bool.eq_iff_iff]; simp; omega]
  rfl
 cases u with
 | false =>
  obtain rfl:r=false:=HRB.out
  go_wp2_with fail
  go_quiet ((go_at_call 112; exact Calls.quiet_of_same (power_b (X.K i).p (X.K i).q (V.nd i).B (V.nd i).l false _ (by first|exact HP.out|exact HP.out.drew|exact HP.out.drewQ _|exact HP.out.drew.drewQ _|exact (HP.out.drewQ _).drew|exact (HP.out.drewQ _).drewQ _) HU.out)))
  go_wp2
  go_ret
  exact ⟨rfl,below_drewN HB3.out _⟩
 | true =>
  by_cases hfi:f=i
  ·have e1:((f:Int) == (i:Int))=true:=beq_iff_eq.2 (by omega)
   obtain rfl:r=true:=by rw [HRB.out,decide_eq_true hfi]; simp
   clear hfi
   go_wp2_with fail
   go_quiet ((go_at_call 112; exact Calls.quiet_of_same (power_b (X.K i).p (X.K i).q (V.nd i).B (V.nd i).l true _ (by first|exact HP.out|exact HP.out.drew|exact HP.out.drewQ _|exact HP.out.drew.drewQ _|exact (HP.out.drewQ _).drew|exact (HP.out.drewQ _).drewQ _) HU.out)))
   go_wp2
   go_ret
   exact ⟨rfl,below_drewN HB3.out _⟩
  ·have e1:((f:Int) == (i:Int))=false:=beq_eq_false_iff_ne.2 (by omega)
   obtain rfl:r=!bb:=by rw [HRB.out,decide_eq_false hfi]; simp
   cases bb with
   | false =>
    go_wp2_with fail
    go_quiet ((go_at_call 112; exact Calls.quiet_of_same (power_b (X.K i).p (X.K i).q (V.nd i).B (V.nd i).l true _ (by first|exact HP.out|exact HP.out.drew|exact HP.out.drewQ _|exact HP.out.drew.drewQ _|exact (HP.out.drewQ _).drew|exact (HP.out.drewQ _).drewQ _) HU.out)))
    go_wp2
    go_ret
    exact ⟨rfl,below_drewN HB3.out _⟩
   | true =>
    go_wp2_with fail
    go_quiet ((go_at_call 112; exact Calls.quiet_of_same (power_b (X.K i).p (X.K i).q (V.nd i).B (V.nd i).l true _ (by first|exact HP.out|exact HP.out.drew|exact HP.out.drewQ _|exact HP.out.drew.drewQ _|exact (HP.out.drewQ _).drew|exact (HP.out.drewQ _).drewQ _) HU.out)))
    go_wp2
    go_ret
    exact ⟨rfl,below_drewN HB3.out _⟩
end
theorem FI.nat {n:Nat} {F:F9} (h:FI n F):∃ f i d k a ph pr pa:Nat,F=frN f i d k a F.y ph pr pa∧f<n∧i<n∧d<6:=by
 obtain ⟨f0,f1,t0,t1,⟨-,-,o3,o4,o5,o6,o7,o8⟩⟩:=h
 obtain ⟨f,t,d,k,a,y,ph,pr,pa⟩:=F
 simp only at *
 obtain ⟨f,rfl⟩:=Int.eq_ofNat_of_zero_le f0
 obtain ⟨t,rfl⟩:=Int.eq_ofNat_of_zero_le t0
 obtain ⟨d,rfl⟩:=Int.eq_ofNat_of_zero_le o3.1
 obtain ⟨k,rfl⟩:=Int.eq_ofNat_of_zero_le (show 0≤k by omega)
 obtain ⟨a,rfl⟩:=Int.eq_ofNat_of_zero_le o5.1
 obtain ⟨ph,rfl⟩:=Int.eq_ofNat_of_zero_le o6.1
 obtain ⟨pr,rfl⟩:=Int.eq_ofNat_of_zero_le o7.1
 obtain ⟨pa,rfl⟩:=Int.eq_ofNat_of_zero_le o8.1
 exact ⟨f,t,d,k,a,ph,pr,pa,rfl,by omega,by omega,by omega⟩
section
variable {w0 w w':World} {C:Nat→Nat} {K:NB} {X:XB} {i m m':Nat} {zs:List Int} {N:PN} {V V':PX} {A:Nat→Addr}
theorem deliver_no (s:Int) (h:WD w0 w C X zs V m) (hE:Held9 w0 A) (hs:¬ (0≤s∧s<V.fly.length)) :
  Calls Tryz.prog 45 #[.pointer (some ⟨X.xb,0,none⟩),.int .i64 s] w fun e w'=>e=.returned (ev A 4)∧w'=w:=by
 have H:=hid h
 have HB:=hid (decide_eq_false hs)
 have g3':w.cell? ⟨3,0,none⟩=some (.iface 318 (.pointer (some (A 3)))):=(h.held hE).var 3 (by decide)
 clear h hE hs
 go_enter Tryz.func45,Tryz.ntmps45
 go_wp2_with fail
 refine (flies_is s false H.out HB.out).mono ?_
 rintro e w1 ⟨rfl,hx⟩
 subst w1
 go_wp2_with fail
 go_ret
 exact ⟨rfl,rfl⟩
theorem deliver_ok (j:Nat) (F:F9) (h:WD w0 w C X zs V m) (hE:Held9 w0 A) (hj:j<V.fly.length) (hF:V.fly[j]'hj=F) (hm:m<1000000) :
  Calls Tryz.prog 45 #[.pointer (some ⟨X.xb,0,none⟩),.int .i64 (j:Int)] w fun e w'=>e=.returned .nilIface∧WOut w0 w w' C X zs (deliverX zs V j F) (m+3):=by
 have HFI:=hid (h.inv.fr F (by rw [← hF]; exact List.getElem_mem _))
 obtain ⟨f,i,d,k,a,ph,pr,pa,e0,hf,hi,hd⟩:=HFI.out.nat
 obtain ⟨y,hy⟩:∃ y,F.y=y:=⟨_,rfl⟩
 rw [hy] at e0
 have HF0:=hid e0
 have H:=hid h
 have HE:=hid hE
 have HB:Hid (decide (0≤(j:Int)∧(j:Int)<V.fly.length)=true):=decide_eq_true (by omega)
 have HT:=hid (take_ok j F h hj hF (by omega))
 rw [e0] at HT
 simp only [frN] at HT
 have HFF:=hid hf
 have HII:=hid hi
 clear h hE e0 hF hj
 go_enter Tryz.func45,Tryz.ntmps45
 go_wp2_with fail
 refine (flies_is (j:Int) true H.out HB.out).mono ?_
 rintro e w1 ⟨rfl,hx⟩
 subst w1
 go_wp2_with fail
 refine HT.out.mono ?_
 rintro e w1 ⟨rfl,C1,X1,g1,g2,g3,g4⟩
 obtain ⟨W3,HW3⟩:∃ W3,Hid (w1.alloc (.cells #[.int .i64 (f:Int),.int .i64 (i:Int),.int .i64 (d:Int),.int .i64 (k:Int),.int .i64 (a:Int),.bool y,.int .i64 (ph:Int),.int .i64 (pr:Int),.int .i64 (pa:Int)] 125)=W3):=⟨_,rfl⟩
 have HBW:Hid (Below w1.heap.size w1 W3):=by rw [← HW3.out]; exact (Below.refl _ _).alloc (Nat.le_refl _) _
 have HR3:Hid (W3.heap[w1.heap.size]? = some (.cells #[.int .i64 (f:Int),.int .i64 (i:Int),.int .i64 (d:Int),.int .i64 (k:Int),.int .i64 (a:Int),.bool y,.int .i64 (ph:Int),.int .i64 (pr:Int),.int .i64 (pa:Int)] 125 (0,0))):=by rw [← HW3.out]; exact heap_alloc_new w1 _
 have hW3:=HW3.out
 have HNW3:Hid (2000≤C1 w1.heap.size):=by
  rcases Nat.lt_or_ge (C1 w1.heap.size) 2000 with q|q
  ·have:=g1.lt _ q; omega
  ·exact q
 have HG:=hid (And.intro (g1.later HBW.out) g2)
 have HK3:Hid (Kept (OwnX C) w W3):=g3.trans (Kept.of_below HBW.out)
 have HC3:Hid (∀ x,x<w.heap.size→C1 x=C x):=g4
 clear g1 g2 g3 g4
 obtain ⟨b0,b1,b2,b3,b4,b5,b6,b7,b8⟩:=nine HR3.out
 obtain ⟨r,HRr⟩:∃ r,Hid (reachB (takeX V j) (frN f i d k a y ph pr pa)=r):=⟨_,rfl⟩
 have HDX:Hid (deliverX zs V j F=if r=true then sendX (arriveX zs (takeX V j) F) (arriveO zs (takeX V j) F) else takeX V j):=by
  unfold deliverX
  rw [← HRr.out,← HF0.out]
  exact rfl
 have HRe:=hid (reaches_is f d k a ph pr pa y r HG.out.1 HFF.out HII.out HRr.out)
 rw [key_xb HG.out.2] at HRe
 go_wp2_with fail
 refine HRe.out.mono ?_
 rintro e w4 ⟨rfl,hb4⟩
 have HB4:=hid hb4
 have HR4:=hid ((hb4.block _ (row_ltJ HR3.out)).trans HR3.out)
 have H4:=hid (HG.out.1.later hb4)
 clear hb4 b0 b1 b2 b3 b4 b5 b6 b7 b8
 obtain ⟨b0,b1,b2,b3,b4,b5,b6,b7,b8⟩:=nine HR4.out
 cases r with
 | false =>
  go_wp2_with fail
  go_ret
  refine ⟨rfl,?_⟩
  rw [HDX.out,if_neg (by decide)]
  exact ⟨C1,X1,H4.out.mono (by omega),HG.out.2,HK3.out.trans (Kept.of_below HB4.out),HC3.out⟩
 | true =>
  have hup:(V.nd i).l≠-2:=by
   have:=HRr.out
   unfold reachB at this
   have h5:upN ((takeX V j).nd i)=true:=by
    rw [Bool.and_eq_true] at this
    exact this.1
   have h6:((V.nd i).l != -2)=true:=h5
   simpa using h6
  have HUp:=hid hup
  have HAr:=hid (arrive_any f d k a ph pr pa y F HF0.out H4.out HE.out HII.out (show ((takeX V j).nd i).l≠-2 from hup) HFI.out hm)
  rw [key_xb HG.out.2] at HAr
  have HAO:=hid (arriveO_fi (F:=F) H4.out.inv (by rw [HF0.out]; exact hup) HFI.out hm)
  clear hup
  go_wp2_with fail
  refine HAr.out.mono ?_
  rintro e w5 ⟨v,rfl,C5,X5,g1,g2,g3,g4,g5⟩
  have HSe:=hid (send_any v _ g1 g5.fr HAO.out.1 (Nat.le_trans HAO.out.2 (by decide)) (by omega))
  rw [key_xb g2,key_xb HG.out.2] at HSe
  have HG5:=hid (And.intro g2 (And.intro g3 g4))
  clear g1 g2 g3 g4 g5
  go_wp2_with fail
  refine HSe.out.mono ?_
  rintro e w6 ⟨rfl,C6,v6,y1,y2,y3⟩
  have HY:=hid (And.intro y1 (And.intro y2 y3))
  clear y1 y2 y3
  go_wp2_with fail
  go_ret
  refine ⟨rfl,?_⟩
  rw [HDX.out,if_pos (by trivial)]
  refine WOut.step (X:=X) HG.out.2 (HK3.out.trans (Kept.of_below HB4.out)) HC3.out ?_
  refine WOut.step (X:=X1) (C:=C1) HG5.out.1 HG5.out.2.1 HG5.out.2.2 ?_
  exact ⟨C6,_,HY.out.1,(by unfold key; exact Prod.ext (key_xb (HG5.out.1.trans HG.out.2)).symm rfl),HY.out.2.1,HY.out.2.2⟩
end
section
variable {w0 w w':World} {C C':Nat→Nat} {K:NB} {X:XB} {i m m':Nat} {zs:List Int} {N:PN} {V V':PX} {A:Nat→Addr}
def putLd (K:NB) (d lb b cap:Nat):NB:={ K with lb:=fun e=>if e=d then lb else K.lb e,b:=fun e=>if e=d then b else K.b e,cap:=fun e=>if e=d then cap else K.cap e }
theorem ldV_put {d e lb b cap:Nat} {y:Int×PL}:ldV (putLd K d lb b cap) (setLd N d y) e=if e=d then .pointer (some ⟨lb,0,none⟩) else ldV K N e:=by
 unfold ldV setLd putLd
 by_cases g:e=d
 ·subst g; simp
 ·simp [g]
theorem ndC_put {d lb b cap:Nat} {y:Int×PL} (hd:d<6):(ndC K N).set (1+d) (.pointer (some ⟨lb,0,none⟩))=ndC (putLd K d lb b cap) (setLd N d y):=by
 unfold ndC
 simp only [ldV_put]
 rcases six hd with rfl|rfl|rfl|rfl|rfl|rfl <;> rfl
theorem ND.putLead {d lb b cap:Nat} {a:Int} {P:PL} (h:ND w0 w C K i zs N m) (hd:d<6) (hL:LD w lb b cap i d a zs P) (c1:C lb=100 * i+10+d) (c2:C b=100 * i+20+d) (h0:w0.heap.size≤K.nd) :
  ND w0 (w.setCell ⟨K.nd,1+d,none⟩ (.pointer (some ⟨lb,0,none⟩))) C (putLd K d lb b cap) i zs (setLd N d (a,P)) m:=by
 have e1:=h.cs; have e2:=h.cj; have e3:=h.cm; have e4:=h.cp; have e5:=h.cq; have e6:=h.cn
 have hk:Kept (In1 K.nd) w (w.setCell ⟨K.nd,1+d,none⟩ (.pointer (some ⟨lb,0,none⟩))):=(Kept.refl _ w).set1 _ _
 have nS:∀ x,C x≠100 * i+1→¬ In1 K.nd x:=fun x g hx=>by rw [show x=K.nd from hx] at g; exact g e6
 have hlo:∀ x,In1 K.nd x→w0.heap.size≤x:=fun x hx=>by rw [show x=K.nd from hx]; exact h0
 refine ⟨?_,h.sp.far hk hlo (fun x hx=>nS x (by rcases hx with rfl|rfl|rfl <;> omega)) (nS _ (by omega)) (nS _ (by omega)),fun e he y hy=>?_,h.cn,h.cs,h.cj,h.cm,h.cp,h.cq,fun e he y hy=>?_,h.n0⟩
 ·show (w.setCell ⟨K.nd,1+d,none⟩ (.pointer (some ⟨lb,0,none⟩))).heap[K.nd]? = _
  rw [heap_setCell_same w K.nd (1+d) _ _ _ h.row,List.setIfInBounds_toArray,ndC_put hd]
 ·by_cases g:e=d
  ·subst g
   have hy':(a,P)=y:=by simpa [setLd] using hy
   subst hy'
   have:=hL.kept hk (nS _ (by omega)) (nS _ (by omega))
   simpa [putLd] using this
  ·have hy':N.ld e=some y:=by simpa [setLd,g] using hy
   have g1:=h.cl e he y hy'
   have:=(h.lds e he y hy').kept hk (nS _ (by omega)) (nS _ (by omega))
   simpa [putLd,g] using this
 ·by_cases g:e=d
  ·subst g; simpa [putLd] using And.intro c1 c2
  ·have:=h.cl e he y (by simpa [setLd,g] using hy)
   simpa [putLd,g] using this
theorem NI.putLead {n d:Nat} {a:Int} {P:PL} (h:NI n N m) (hu:N.l≠-2) (ha:0≤a∧a≤1048576) (h1:P.stt<4) (h2:0≤P.seen∧P.seen≤1048576) (h3:PW n P):NI n (setLd N d (a,P)) m:=by
 refine ⟨h.gd,h.nm,h.sz,h.up,h.l0,h.l1,fun e y hy=>?_⟩
 by_cases g:e=d
 ·subst g
  have hy':(a,P)=y:=by simpa [setLd] using hy
  subst hy'
  exact ⟨hu,ha,h1,h2,h3⟩
 ·exact h.ld e y (by simpa [setLd,g] using hy)
theorem WD.putLead {w1:World} {d lb b cap:Nat} {a:Int} {P:PL} (h:WD w0 w C X zs V m) (hb:Below w.heap.size w w1) (hi:i<zs.length) (hd:d<6) (hu:(V.nd i).l≠-2) (hL:LD w1 lb b cap i d a zs P) (hlb:w.heap.size≤b) (ha:0≤a∧a≤1048576) (h1:P.stt<4) (h2:0≤P.seen∧P.seen≤1048576) :
  ∃ C',WD w0 (w1.setCell ⟨(X.K i).nd,1+d,none⟩ (.pointer (some ⟨lb,0,none⟩))) C' { X with K:=fun e=>if e=i then putLd (X.K i) d lb b cap else X.K e } zs (setNd V i (setLd (V.nd i) d (a,P))) m∧Kept (OwnX C) w (w1.setCell ⟨(X.K i).nd,1+d,none⟩ (.pointer (some ⟨lb,0,none⟩)))∧(∀ x,x<w.heap.size→C' x=C x)∧C' lb=100 * i+10+d∧C' b=100 * i+20+d∧(∀ x,w.heap.size≤x→x≠lb→x≠b→2000≤C' x):=by
 have n7:=h.n7.2
 have hbl:=hL.bl
 have hlt:=row_ltJ hL.row
 obtain ⟨C1,hC1⟩:∃ C1,C1=paint (paint C lb (100 * i+10+d)) b (100 * i+20+d):=⟨_,rfl⟩
 have hC:∀ x,x<w.heap.size→C1 x=C x:=fun x hx=>by rw [hC1,paint_ne (by omega),paint_ne (by omega)]
 have e1:C1 lb=100 * i+10+d:=by rw [hC1,paint_ne (by omega),paint_at]
 have e2:C1 b=100 * i+20+d:=by rw [hC1,paint_at]
 have hbig:∀ x,w.heap.size≤x→x≠lb→x≠b→2000≤C1 x:=fun x hx n1 n2=>by
  rw [hC1,paint_ne n2,paint_ne n1]
  rcases Nat.lt_or_ge (C x) 2000 with q|q
  ·have:=h.lt x q; omega
  ·exact q
 have hg:=h.grow (C':=C1) hb hC (fun x hx hc=>by
  by_cases n1:x=lb
  ·rw [n1]; exact hlt
  ·by_cases n2:x=b
   ·rw [n2]; omega
   ·have:=hbig x hx n1 n2; omega)
 have hcn:=(h.nds i hi).cn
 have hcn1:=(hg.nds i hi).cn
 have hnd:=row_ltJ (h.nds i hi).row
 have hni:=(h.inv.nd i hi).putLead (d:=d) hu ha h1 h2 hL.pw
 refine ⟨C1,?_,?_,hC,e1,e2,hbig⟩
 ·exact hg.node (S:=In1 (X.K i).nd) ((Kept.refl _ w1).set1 _ _) hi (fun x hx=>by rw [show x=_ from hx]; omega) (fun _ _=>rfl) (fun x hx hc=>by have:=hg.lt x hc; omega) ((hg.nds i hi).putLead hd hL e1 e2 (h.nds i hi).n0) rfl (Nat.le_refl _) (h.inv.node hni (Nat.le_refl _))
 ·exact (Kept.of_below hb).setCell (show C (X.K i).nd<2000 by omega) _
def cBeg (n:Nat) (V:PX) (s d:Int):Nat:=if (0≤s∧s<n)∧0≤d∧d<6 then (if upN (V.nd s.toNat)=true then (if heldX n V d.toNat=true then 8 else 0) else 6) else 2
theorem WD.sl (h:WD w0 w C X zs V m):IsSl w (.slice (some ⟨X.wb,0,none⟩) zs.length X.wc) zs:=by
 have:=h.n7.2
 exact ⟨_,X.wc,rfl,by unfold maxLen; omega,(fun x=>by cases x),fun _=>⟨X.wb,0,rfl,h.ws⟩⟩
theorem heldX_ld {n d:Nat} (h:heldX n V d=false) (hi:i<n):(V.nd i).ld d=none:=by
 unfold heldX at h
 rw [List.any_eq_false] at h
 have:=h i (List.mem_range.2 hi)
 cases hl:(V.nd i).ld d with
 | none=>rfl
 | some x=>rw [hl] at this; simp at this
theorem toL_start {n:Nat} {s d:Nat} (hs:s<n) (hn:n≤7) (hd:d<6):(∀ f,f∈toL s d 1 0 0 n→FI n f)∧(toL s d 1 0 0 n).length≤1000 :=
 ⟨toL_fi hs hn hd (by decide) (by decide) (by decide) n (Nat.le_refl _),by rw [toL_length]; omega⟩
theorem begin_any (s d:Int) (c:Nat) (h:WD w0 w C X zs V m) (hE:Held9 w0 A) (hm:m<1000000) (hc:cBeg zs.length V s d=c) :
  Calls Tryz.prog 39 #[.pointer (some ⟨X.xb,0,none⟩),.int .i64 s,.int .i64 d] w fun e w'=>e=.returned (ev A c)∧WOut w0 w w' C X zs (if c=0 then beginX zs V s.toNat d.toNat else V) (m+1):=by
 have H:=hid h
 have HE:=hid hE
 have HE1:=hid (h.held hE)
 have n7:=h.n7
 clear h hE
 subst hc
 by_cases hs:(0≤s∧s<zs.length)∧0≤d∧d<6
 ·obtain ⟨k,rfl⟩:=Int.eq_ofNat_of_zero_le hs.1.1
  obtain ⟨dn,rfl⟩:=Int.eq_ofNat_of_zero_le hs.2.1
  have hk:k<zs.length:=by omega
  have hd:dn<6:=by omega
  have HK:=hid hk
  obtain ⟨b,HB⟩:∃ b,Hid (((V.nd k).l != -2)=b):=⟨_,rfl⟩
  have HU:Hid (upN (V.nd k)=b):=HB.out
  cases b with
  | true =>
   obtain ⟨hb,HH⟩:∃ hb,Hid (heldX zs.length V dn=hb):=⟨_,rfl⟩
   cases hb with
   | true =>
    have e:cBeg zs.length V k dn=8:=by unfold cBeg; rw [if_pos hs,Int.toNat_natCast,Int.toNat_natCast,HU.out,if_pos rfl,HH.out,if_pos rfl]
    rw [e]
    clear e hs hk
    have g7:w.cell? ⟨7,0,none⟩=some (.iface 318 (.pointer (some (A 7)))):=HE1.out.var 7 (by decide)
    go_enter Tryz.func39,Tryz.ntmps39
    go_wp2_with fail
    refine (findDeal_ok k dn H.out HK.out hd).mono ?_
    rintro e w1 ⟨rfl,hx⟩
    subst w1
    go_wp2_with fail
    refine (powered_is true (H.out.nds k HK.out) HE1.out HB.out).mono ?_
    rintro e w1 ⟨rfl,hb⟩
    simp only [if_true]
    have H1:=hid (H.out.later hb)
    have HB1:=hid hb
    have g7':=cell_later hb g7
    clear hb g7
    go_wp2_with fail
    have HI:=hid (isHeld_is dn H1.out HE.out hd)
    rw [HH.out] at HI
    refine HI.out.mono ?_
    rintro e w2 ⟨rfl,hb2⟩
    have HB2:=hid (HB1.out.trans (hb2.mono HB1.out.size))
    have g7:=cell_later hb2 g7'
    clear hb2 g7'
    go_wp2_with fail
    go_ret
    exact ⟨rfl,H.out.out HB2.out (Nat.le_succ _)⟩
   | false =>
    have e:cBeg zs.length V k dn=0:=by unfold cBeg; rw [if_pos hs,Int.toNat_natCast,Int.toNat_natCast,HU.out,if_pos rfl,HH.out,if_neg (by decide)]
    rw [e]
    clear e hs hk
    have HUp:Hid ((V.nd k).l≠-2):=by have:=HB.out; show (V.nd k).l≠-2; simpa using this
    have HLn:=hid (heldX_ld HH.out HK.out)
    go_enter Tryz.func39,Tryz.ntmps39
    go_wp2_with fail
    refine (findDeal_ok k dn H.out HK.out hd).mono ?_
    rintro e w1 ⟨rfl,hx⟩
    subst w1
    go_wp2_with fail
    refine (powered_is true (H.out.nds k HK.out) HE1.out HB.out).mono ?_
    rintro e w1 ⟨rfl,hb⟩
    simp only [if_true]
    have H1:=hid (H.out.later hb)
    have HB1:=hid hb
    clear hb
    go_wp2_with fail
    have HI:=hid (isHeld_is dn H1.out HE.out hd)
    rw [HH.out] at HI
    refine HI.out.mono ?_
    rintro e w2 ⟨rfl,hb2⟩
    have HB2:=hid (HB1.out.trans (hb2.mono HB1.out.size))
    have H2:=hid (H1.out.later hb2)
    have c0:=H2.out.cells.1
    clear hb2 HI H1
    go_wp2_with fail
    refine (ldBegin_ok A _ zs k (dn:Int) w2 H2.out.sl (H2.out.held HE.out).to3 H2.out.inv.he HK.out (by omega) (by omega)).mono ?_
    rintro e w3 ⟨lb,b,cap,rfl,hl,hb3,hlb⟩
    have HL3:=hid hl
    have c1:=((H2.out.later hb3).nds k HK.out).lead hd
    rw [ldV_none HLn.out] at c1
    have z1:=((H2.out.later hb3).nds k HK.out).fz (1+dn)
    obtain ⟨C4,q1,q2,q3,-,-,-⟩:=H2.out.putLead hb3 HK.out hd HUp.out hl hlb (by decide) (by decide) (by decide)
    obtain ⟨W4,HW4⟩:∃ W4,Hid (w3.setCell ⟨(X.K k).nd,1+dn,none⟩ (.pointer (some ⟨lb,0,none⟩))=W4):=⟨_,rfl⟩
    have hW4:=HW4.out
    rw [hW4] at q1 q2
    have HQ:=hid (And.intro q1 (And.intro q2 q3))
    clear q1 q2 q3 hl hb3 hlb
    have HLD:=hid ((HQ.out.1.nds k HK.out).lds dn hd (0,P0) (by simp [setNd,setLd]))
    simp only [putLd,if_true] at HLD
    go_wp2_with fail
    refine (ldStart0_any n7.2 HLD.out).mono ?_
    rintro e w5 ⟨v,rfl,hf5,hb5⟩
    have H5:=hid (HQ.out.1.later hb5)
    have HSe:=hid (send_any v _ H5.out hf5.fr (toL_start HK.out n7.2 hd).1 (toL_start HK.out n7.2 hd).2 (by omega))
    have HB5:=hid hb5
    clear hf5 hb5
    go_wp2_with fail
    refine HSe.out.mono ?_
    rintro e w6 ⟨rfl,C6,v6,y1,y2,y3⟩
    have HY:=hid (And.intro y1 (And.intro y2 y3))
    clear y1 y2 y3
    go_wp2_with fail
    go_ret
    refine ⟨rfl,?_⟩
    refine WOut.step (X:=X) (C1:=C) (X1:=X) rfl (Kept.of_below HB2.out) (fun _ _=>rfl) ?_
    refine WOut.step (X1:={ X with K:=fun e=>if e=k then putLd (X.K k) dn lb b cap else X.K e }) (key_K rfl) HQ.out.2.1 HQ.out.2.2 ?_
    refine WOut.step (C1:=C4) (X1:={ X with K:=fun e=>if e=k then putLd (X.K k) dn lb b cap else X.K e }) rfl (Kept.of_below HB5.out) (fun _ _=>rfl) ?_
    exact ⟨C6,_,HY.out.1,rfl,HY.out.2.1,HY.out.2.2⟩
  | false =>
   have e:cBeg zs.length V k dn=6:=by unfold cBeg; rw [if_pos hs,Int.toNat_natCast,HU.out,if_neg (by decide)]
   rw [e]
   clear e hs hk
   go_enter Tryz.func39,Tryz.ntmps39
   go_wp2_with fail
   refine (findDeal_ok k dn H.out HK.out hd).mono ?_
   rintro e w1 ⟨rfl,hx⟩
   subst w1
   go_wp2_with fail
   refine (powered_is false (H.out.nds k HK.out) HE1.out HB.out).mono ?_
   rintro e w1 ⟨rfl,hb⟩
   rw [if_neg (by decide),if_neg (by decide)]
   have HB1:=hid hb
   clear hb
   go_wp2_with fail
   go_ret
   exact ⟨rfl,H.out.out HB1.out (Nat.le_succ _)⟩
 ·have e:cBeg zs.length V s d=2:=by unfold cBeg; rw [if_neg hs]
  rw [e]
  have HS:=hid hs
  clear e hs
  go_enter Tryz.func39,Tryz.ntmps39
  go_wp2_with fail
  refine (findDeal_no s d H.out HE.out HS.out).mono ?_
  rintro e w1 ⟨rfl,hb⟩
  have HB1:=hid hb
  clear hb
  go_wp2_with fail
  refine (powered_err _ _).mono ?_
  rintro e w2 ⟨rfl,hx⟩
  subst w2
  go_wp2_with fail
  go_ret
  exact ⟨rfl,H.out.out HB1.out (Nat.le_succ _)⟩
end
end Go.Proofs.YtaehdgemkafinaaGreatDoor
